/- Disk: Crash. -/
import Derived.Test.YtijcpmbfhfppmaaGreatDoorB18
import Derived.Lib.SlBytesConst
import Derived.SliceStrings
section
namespace Go.Proofs.YtijcpmbfhfppmaaGreatDoor
open Go.ChangeShapes Go.WideShapes Go.ChangeAt Go.RowKit Go.Maps

section
variable {base d M room N : Nat} {w w' w2 : World} {fs fs' : List Fe}
theorem IntsAt.same {w w' : World} {a : Option Addr} {l : List Int} (h : IntsAt w a l) (hs : ∀ b off, a = some ⟨b, off, none⟩ → 0 < l.length → w'.heap[b]? = w.heap[b]?) : IntsAt w' a l :=
  ⟨h.bd, fun i hi => by
    obtain ⟨b, off, e, hc⟩ := h.cell i hi
    exact ⟨b, off, e, by rw [World.cell?_of_block (w := w) (w' := w') (hs b off e (by omega))]; exact hc⟩⟩
set_option maxRecDepth 20000 in
set_option maxHeartbeats 4000000 in
theorem dcrash_calls (h : DiskAt base w d M room N fs) (hbs : base ≤ w.heap.size) (hN : N ≤ 1000000) (kp : Option Addr) (kn kc : Nat) (ks : List Int) (hks : ks.length = kn) (hI : IntsAt w kp ks) (hne : ∀ b off, kp = some ⟨b, off, none⟩ → 0 < ks.length → ¬ DMut d M fs b) :
    Calls Tryz.prog 32 #[.pointer (some ⟨d, 0, none⟩), .slice kp kn kc] w fun e w' => e = .returned (.tuple #[]) ∧ ∃ fs', DiskAt base w' d M room N fs' ∧ DGrew d M w fs w' fs' ∧ sps fs' = crashS ks 0 (sps fs) := by
  have b1 : Below w.heap.size w (w.alloc (.cells #[.pointer (some ⟨d, 0, none⟩)] 38)) := (Below.refl _ _).alloc (Nat.le_refl _) _
  have b2 : Below w.heap.size w ((w.alloc (.cells #[.pointer (some ⟨d, 0, none⟩)] 38)).alloc (.cells #[.slice kp kn kc] 32)) := b1.alloc b1.size _
  have b3 : Below w.heap.size w (((w.alloc (.cells #[.pointer (some ⟨d, 0, none⟩)] 38)).alloc (.cells #[.slice kp kn kc] 32)).alloc (.cells #[.int .i64 0] 3)) := b2.alloc b2.size _
  have s1 : (w.alloc (.cells #[.pointer (some ⟨d, 0, none⟩)] 38)).heap.size = w.heap.size + 1 := by simp
  have s2 : ((w.alloc (.cells #[.pointer (some ⟨d, 0, none⟩)] 38)).alloc (.cells #[.slice kp kn kc] 32)).heap.size = w.heap.size + 2 := by simp
  have s3 : (((w.alloc (.cells #[.pointer (some ⟨d, 0, none⟩)] 38)).alloc (.cells #[.slice kp kn kc] 32)).alloc (.cells #[.int .i64 0] 3)).heap.size = w.heap.size + 3 := by simp
  have hQ : (((w.alloc (.cells #[.pointer (some ⟨d, 0, none⟩)] 38)).alloc (.cells #[.slice kp kn kc] 32)).alloc (.cells #[.int .i64 0] 3)).heap[w.heap.size]? = some (.cells #[.pointer (some ⟨d, 0, none⟩)] 38 (0, 0)) := by
    rw [Below.heap_alloc _ _ _ (by omega), Below.heap_alloc _ _ _ (by omega)]; exact heap_new _ _
  have hK : (((w.alloc (.cells #[.pointer (some ⟨d, 0, none⟩)] 38)).alloc (.cells #[.slice kp kn kc] 32)).alloc (.cells #[.int .i64 0] 3)).heap[w.heap.size + 1]? = some (.cells #[.slice kp kn kc] 32 (0, 0)) := by
    rw [Below.heap_alloc _ _ _ (by omega), ← s1]; exact heap_new _ _
  have hP : (((w.alloc (.cells #[.pointer (some ⟨d, 0, none⟩)] 38)).alloc (.cells #[.slice kp kn kc] 32)).alloc (.cells #[.int .i64 0] 3)).heap[w.heap.size + 2]? = some (.cells #[.int .i64 0] 3 (0, 0)) := by
    rw [← s2]; exact heap_new _ _
  have hlow : ∀ g, DMut d M fs g ∨ DRed fs g → g < w.heap.size := fun g hg => hg.elim (fun hh => (h.mut_lt hh).2) (fun hh => (h.red_lt hh).2)
  have EC := hide (show ∀ W3 : World, Below w.heap.size w W3 → W3.heap.size = w.heap.size + 3 → W3.heap[w.heap.size]? = some (.cells #[.pointer (some ⟨d, 0, none⟩)] 38 (0, 0)) → W3.heap[w.heap.size + 1]? = some (.cells #[.slice kp kn kc] 32 (0, 0)) → W3.heap[w.heap.size + 2]? = some (.cells #[.int .i64 0] 3 (0, 0)) →
      Calls Tryz.prog 72 #[.pointer (some ⟨d, 0, none⟩), .func (.func 73) #[] #[.pointer (some ⟨w.heap.size + 2, 0, none⟩), .pointer (some ⟨w.heap.size + 1, 0, none⟩), .pointer (some ⟨w.heap.size, 0, none⟩)]] W3 fun e w' => e = .returned (.tuple #[]) ∧ ∃ fs', DiskAt base w' d M room N fs' ∧ DGrew d M w fs w' fs' ∧ sps fs' = crashS ks 0 (sps fs) from fun W3 b3 s3 hQ hK hP =>
    each_calls base d M room N W3 fs (h.later b3) 73 _ enter_crash
    (fun w' => ∃ fs', DiskAt base w' d M room N fs' ∧ DGrew d M w fs w' fs' ∧ sps fs' = crashS ks 0 (sps fs)) (fun W0 hb => by
      have hb0 : Below w.heap.size w W0 := b3.trans (hb.mono b3.size)
      have hW0 : w.heap.size + 3 ≤ W0.heap.size := by have := hb.size; omega
      refine ⟨fun i w1 => ∃ p', DiskAt base w1 d M room N (p' ++ fs.drop i) ∧ sps p' ++ crashS ks i (sps (fs.drop i)) = crashS ks 0 (sps fs) ∧ (∀ g, DMut d M (p' ++ fs.drop i) g → DMut d M fs g ∨ W0.heap.size ≤ g) ∧ (∀ g, DRed (p' ++ fs.drop i) g → DRed fs g ∨ W0.heap.size ≤ g) ∧ w1.heap[w.heap.size + 2]? = some (.cells #[.int .i64 (i : Int)] 3 (0, 0)) ∧ (∀ g, g < W0.heap.size → ¬ DMut d M fs g → g ≠ w.heap.size + 2 → w1.heap[g]? = W0.heap[g]?) ∧ (w1.os = W0.os ∧ w1.tape = W0.tape ∧ w1.output = W0.output ∧ W0.heap.size ≤ w1.heap.size), ?_, ?_, ?_, ?_⟩
      · refine ⟨[], h.later hb0, by simp [sps], fun g hg => .inl hg, fun g hg => .inl hg, ?_, fun g _ _ _ => rfl, rfl, rfl, rfl, Nat.le_refl _⟩
        rw [hb.block _ (by omega)]; exact hP
      · rintro i w1 ⟨p', _, _, _, _, _, hs, _⟩ g hg1 hg2
        exact hs g hg2 (fun hm => by have := hlow g (.inl hm); omega) (by omega)
      · rintro i hi w1 ⟨p', hd, hsp, hmu, hre, hP1, hs, ho, ht, hou, hsz⟩
        have hdrop : fs.drop i = fs[i] :: fs.drop (i + 1) := List.drop_eq_getElem_cons hi
        rw [hdrop] at hd hsp hmu hre
        have hx : fs[i] ∈ p' ++ fs[i] :: fs.drop (i + 1) := List.mem_append_right _ List.mem_cons_self
        have hnm := hd.names _ hx
        refine ⟨hd.c1, (hd.map.look_yes (str fs[i].1) (by rw [str_size]; simp only [maxLen]; omega) fs[i].2.1 (List.mem_map.2 ⟨fs[i], hx, rfl⟩)).2, ?_⟩
        have hsame : ∀ g, w.heap.size ≤ g → g < w.heap.size + 2 → w1.heap[g]? = W3.heap[g]? := fun g h1 h2 => (hs g (by omega) (fun hm => by have := hlow g (.inl hm); omega) (by omega)).trans (hb.block g (by omega))
        have hi16 := h.few
        refine (crash1_calls p' (fs.drop (i + 1)) fs[i] hd (Nat.le_trans hbs (Nat.le_trans hb0.size hsz)) hN (w.heap.size + 2) (w.heap.size + 1) w.heap.size i (by omega) hP1 kp kn kc ((hsame _ (by omega) (by omega)).trans hK) ((hsame _ (by omega) (by omega)).trans hQ) ks hks (hI.same (fun b off e h0 => ?_))).mono ?_
        · have hbl : b < w.heap.size := by
            obtain ⟨b', off', e1, e2⟩ := hI.cell 0 h0
            rw [e1] at e
            have hbb : b' = b := by simpa using congrArg (fun x => x.map Addr.block) e
            have := World.block_lt_of_cell? _ _ e2
            simp only at this
            omega
          exact (hs b (Nat.lt_of_lt_of_le hbl hb0.size) (hne b off e h0) (by omega)).trans (hb0.block b hbl)
        · rintro e w2 ⟨rfl, hv⟩
          refine ⟨rfl, ?_⟩
          obtain ⟨p2, k1, k2, k3, k4⟩ := hv.left
          refine ⟨p2, k1, ?_, fun g hg => ?_, fun g hg => ?_, hv.cnt, fun g h1 h2 h3 => ?_, hv.os.trans ho, hv.tape.trans ht, hv.output.trans hou, Nat.le_trans hsz hv.size⟩
          · rw [k4, List.append_assoc, ← hsp]
            rfl
          · rcases k2 g hg with h1 | h1
            · exact hmu g h1
            · exact .inr (Nat.le_trans hsz h1)
          · rcases k3 g hg with h1 | h1
            · exact hre g h1
            · exact .inr (Nat.le_trans hsz h1)
          · refine (hv.same g (Nat.lt_of_lt_of_le h1 hsz) (fun hm => ?_) h3).trans (hs g h1 h2 h3)
            rcases hmu g hm with h4 | h4
            · exact h2 h4
            · omega
      · rintro w1 ⟨p', hd, hsp, hmu, hre, hP1, hs, ho, ht, hou, hsz⟩
        rw [List.drop_length, List.append_nil] at hd hmu hre
        rw [List.drop_length] at hsp
        refine ⟨p', hd, ⟨ho.trans hb0.os, ht.trans hb0.tape, hou.trans hb0.output, Nat.le_trans hb0.size hsz, fun g hg hn => ?_, fun g hg => (hmu g hg).imp id (Nat.le_trans hb0.size), fun g hg => (hre g hg).imp id (Nat.le_trans hb0.size)⟩, ?_⟩
        · exact (hs g (Nat.lt_of_lt_of_le hg hb0.size) hn (by omega)).trans (hb0.block g hg)
        · rw [← hsp]
          show sps p' = sps p' ++ crashS ks fs.length (sps [])
          rw [show sps [] = [] from rfl, crashS, List.append_nil]))
  have EC2 := hide (unhide EC _ b3 s3 hQ hK hP)
  clear EC h hbs hI hne b1 b2 b3 s1 s2 s3 hQ hK hP hlow
  go_enter Tryz.func32, Tryz.ntmps32
  go_wp2_with (go_at_call 72; refine (unhide EC2).mono ?_; rintro e W ⟨rfl, hE⟩; have HE := hide hE; clear hE)
  go_end0
  exact ⟨rfl, unhide HE⟩
end
end Go.Proofs.YtijcpmbfhfppmaaGreatDoor
end
/- Disk: what must be whatever is asked (live). -/
section
namespace Go.Proofs.YtijcpmbfhfppmaaGreatDoor
open Go.ChangeShapes Go.WideShapes Go.ChangeAt Go.RowKit Go.Maps

theorem DGrew.below {base d M room N : Nat} {w w' : World} {fs fs' : List Fe} (h : DiskAt base w d M room N fs) (hbs : base ≤ w.heap.size) (hg : DGrew d M w fs w' fs') : Below base w w' :=
  ⟨hg.os, hg.tape, hg.output, hg.size, fun i hi => hg.block i (by omega) (fun hm => by have := (h.mut_lt hm).1; omega)⟩
theorem lit_ints (W : World) (l : List Int) (hl : ∀ n ∈ l, -9223372036854775808 ≤ n ∧ n ≤ 9223372036854775807) : IntsAt (W.alloc (.cells (l.map (Value.int .i64)).toArray 3)) (some ⟨W.heap.size, 0, none⟩) l := by
  refine ⟨hl, fun i hi => ⟨W.heap.size, 0, rfl, ?_⟩⟩
  rw [cell_of_row _ _ _ _ _ _ (heap_new W _), Nat.zero_add]
  simp [hi]
theorem new_ne {base d M room N : Nat} {W : World} {fs : List Fe} (h : DiskAt base W d M room N fs) (n : Nat) : ∀ b off, some (⟨W.heap.size, 0, none⟩ : Addr) = some ⟨b, off, none⟩ → 0 < n → ¬ DMut d M fs b := by
  intro b off e _ hm
  have h1 := (h.mut_lt hm).2
  simp only [Option.some.injEq, Addr.mk.injEq] at e
  omega
theorem sm {s : ByteArray} (h : s.size ≤ 1000) : s.size ≤ maxLen := by simp only [maxLen]; omega
def L1 : Ds := [([97], ⟨false, [], [(false, 0, [120, 121, 122])]⟩)]
def L2 : Ds := [([97], ⟨true, [120, 121, 122], []⟩)]
def L3 : Ds := [([97], ⟨true, [120, 121, 122], [(false, 1, [112, 113])]⟩)]
end Go.Proofs.YtijcpmbfhfppmaaGreatDoor
end
/- Disk: contracts over what a disk is by the document. -/
section
namespace Go.Proofs.YtijcpmbfhfppmaaGreatDoor
open Go.ChangeShapes Go.WideShapes Go.ChangeAt Go.RowKit Go.Maps

/-- A disk in memory, from a block on, by the document. -/
structure Dv (base : Nat) (w : World) (d M room N : Nat) (ss : Ds) : Prop where
  le : base ≤ w.heap.size
  few : N ≤ 1000000
  at_ : ∃ fs, DiskAt base w d M room N fs ∧ sps fs = ss
section
variable {base d M room N : Nat} {w w' : World} {ss : Ds}
theorem Dv.later (h : Dv base w d M room N ss) (hb : Below w.heap.size w w') : Dv base w' d M room N ss := by
  obtain ⟨fs, h1, h2⟩ := h.at_
  exact ⟨Nat.le_trans h.le hb.size, h.few, fs, h1.later hb, h2⟩
theorem Dv.drew (h : Dv base w d M room N ss) : Dv base w.drew d M room N ss := by
  obtain ⟨fs, h1, h2⟩ := h.at_
  exact ⟨h.le, h.few, fs, h1.drew, h2⟩
theorem Dv.mono {N' : Nat} (h : Dv base w d M room N ss) (hN : N ≤ N') (hf : N' ≤ 1000000) : Dv base w d M room N' ss := by
  obtain ⟨fs, h1, h2⟩ := h.at_
  exact ⟨h.le, hf, fs, h1.mono hN, h2⟩
theorem Dv.rise (h : Dv base w d M room N ss) : Rises ss := by
  obtain ⟨fs, h1, rfl⟩ := h.at_
  exact h1.riseS
/-- How a call ends. -/
def VEnd (base d M room N : Nat) (w : World) (r : Nat × Ds) (e : Ending) (w' : World) : Prop := e = .returned (.int .i64 (r.1 : Int)) ∧ Dv base w' d M room N r.2 ∧ Below base w w'
theorem VEnd.of {r : Nat × Ds} {e : Ending} {fs : List Fe} (h : DiskAt base w d M room N fs) (hb : base ≤ w.heap.size) {N' : Nat} (hN : N' ≤ 1000000) (hE : DEnd base d M room N' w fs r e w') : VEnd base d M room N' w r e w' := by
  obtain ⟨he, fs', h1, hg, hs⟩ := hE
  exact ⟨he, ⟨Nat.le_trans hb hg.size, hN, fs', h1, hs⟩, DGrew.below h hb hg⟩
/-- A list that the law itself has just made may be handed in too. -/
theorem vcrash_new (h : Dv base w d M room N ss) (ks : List Int) (hks : ∀ n ∈ ks, -9223372036854775808 ≤ n ∧ n ≤ 9223372036854775807) (n c : Nat) (hn : ks.length = n) :
    Calls Tryz.prog 32 #[.pointer (some ⟨d, 0, none⟩), .slice (some ⟨w.heap.size, 0, none⟩) n c] (w.alloc (.cells (ks.map (Value.int .i64)).toArray 3)) fun e w' => e = .returned (.tuple #[]) ∧ Dv base w' d M room N (crashS ks 0 ss) ∧ Below base w w' := by
  obtain ⟨fs, h1, rfl⟩ := h.at_
  have b1 : Below w.heap.size w (w.alloc (.cells (ks.map (Value.int .i64)).toArray 3)) := (Below.refl _ _).alloc (Nat.le_refl _) _
  have hle := Nat.le_trans h.le b1.size
  refine (dcrash_calls (h1.later b1) hle h.few _ n c ks hn (lit_ints w ks hks) (new_ne h1 _)).mono ?_
  rintro e W ⟨rfl, fs', h2, hg, hs⟩
  exact ⟨rfl, ⟨Nat.le_trans hle hg.size, h.few, fs', h2, hs⟩, (b1.mono h.le).trans (DGrew.below (h1.later b1) hle hg)⟩
end
/-! What a new file is. -/
end Go.Proofs.YtijcpmbfhfppmaaGreatDoor
end
/- Disk: Names; a name by the document; texts that came in. -/
section
namespace Go.Proofs.YtijcpmbfhfppmaaGreatDoor
open Go.ChangeShapes Go.WideShapes Go.ChangeAt Go.RowKit Go.Maps

/-- One's own row of texts. -/
def OwnN (base : Nat) (w : World) (sp : Option Addr) (c : Nat) (l : List Nm) : Prop := w.ownsRow base 9 1 (.slice sp l.length c) l.length (l.map encStr)
section
variable {base : Nat} {w w' : World} {sp : Option Addr} {c : Nat} {l : List Nm}
theorem OwnN.ofNil (base : Nat) (w : World) : OwnN base w none 0 [] := w.ownsRow_nil base 9 1
theorem OwnN.blk_is (h : OwnN base w sp c l) : ∀ g, blk sp = some g → base ≤ g ∧ g < w.heap.size ∧ ∃ cur : Array Value, w.heap[g]? = some (.cells cur 9 (0, 0)) := by
  intro g hg
  rcases h.2 with ⟨hv, _⟩ | ⟨g1, cap, cur, hv, hb, hh, _⟩
  · simp only [Value.slice.injEq] at hv
    rw [hv.1] at hg
    cases hg
  · simp only [Value.slice.injEq] at hv
    rw [hv.1] at hg
    obtain rfl : g1 = g := by simpa [blk] using hg
    exact ⟨hb, (Array.getElem?_eq_some_iff.1 hh).1, _, hh⟩
theorem OwnN.same (h : OwnN base w sp c l) (hs : ∀ g, blk sp = some g → w'.heap[g]? = w.heap[g]?) : OwnN base w' sp c l := by
  refine ⟨h.1, ?_⟩
  rcases h.2 with hv | ⟨g, cap, cur, hv, hb, hg, r⟩
  · exact .inl hv
  · refine .inr ⟨g, cap, cur, hv, hb, (hs g ?_).trans hg, r⟩
    simp only [Value.slice.injEq] at hv
    rw [hv.1]; rfl
theorem OwnN.later (h : OwnN base w sp c l) (hb : Below w.heap.size w w') : OwnN base w' sp c l := h.same (fun g hg => hb.block g (h.blk_is g hg).2.1)
theorem OwnN.mono {base' : Nat} (h : OwnN base w sp c l) (hb : base' ≤ base) : OwnN base' w sp c l := ⟨h.1, h.2.imp id (fun ⟨g, cap, cur, h1, h2, h3⟩ => ⟨g, cap, cur, h1, Nat.le_trans hb h2, h3⟩)⟩
theorem OwnN.cell (h : OwnN base w sp c l) (i : Nat) (hi : i < l.length) : ∃ g, sp = some ⟨g, 0, none⟩ ∧ w.cell? ⟨g, i, none⟩ = some (.string (str l[i])) := by
  obtain ⟨sp2, c2, hv, hc⟩ := names_shape h rfl
  simp only [Value.slice.injEq] at hv
  obtain ⟨g, hs, _, _, hcell⟩ := hc i hi
  exact ⟨g, by rw [hv.1, hs], hcell w rfl⟩
theorem infoN : (Tryz.prog.info? 9).map (fun i => (i.zero, i.size, i.bytes)) = some (some (.string ByteArray.empty), 1, 16) := by kernel_rfl
theorem run_appendN (hown : OwnN base w sp c l) (B : Nat) (x : Nm) (hB : w.heap[B]? = some (.cells #[.string (str x)] 9 (0, 0))) (hn : (l.length + 1) * 16 ≤ 140737488355328) (hbase : base ≤ w.heap.size) (ty : TypeId) :
    ∃ sp' c' w', (Builtin.append_ #[74, 74] ty #[.slice sp l.length c, .slice (some ⟨B, 0, none⟩) 1 1]).run Tryz.prog w = .ok (.slice sp' (l.length + 1) c') w' ∧ OwnN base w' sp' c' (l ++ [x]) ∧ Grew w sp w' sp' := by
  obtain ⟨i0, hi, hz0, hz1, hz2⟩ := info_parts infoN
  obtain ⟨v', w', hrun, h1, h2, _, h5⟩ := run_append_own_at (P := Tryz.prog) w base 74 ty 9 i0 _ 1 16 Tryz.underlying74 hi hz0 hz1 hz2 rfl (by omega) _ _ _ hown ⟨B, 0, none⟩ 1 1 [.string (str x)] rfl
    (fun j u hu => by have := World.news_of_block hB j u; simp only at this; exact this hu) (by intro u hu; simp at hu; subst hu; rfl) (by simp only [maxLen]; omega) (by omega) hbase
  have hv : ∃ sp' c', v' = .slice sp' (l.length + 1) c' := by
    rcases h1.2 with ⟨hv, h0⟩ | ⟨g, cap, cur, hv, _⟩
    · omega
    · exact ⟨_, _, hv⟩
  obtain ⟨sp', c', rfl⟩ := hv
  rw [ownBlock_slice] at h2
  rw [ownBlock_slice, ownBlock_slice] at h5
  refine ⟨sp', c', w', hrun, ?_, ⟨h2, fun g hg => ?_⟩⟩
  · show w'.ownsRow base 9 1 (.slice sp' (l ++ [x]).length c') (l ++ [x]).length ((l ++ [x]).map encStr)
    rw [List.map_append, List.length_append]
    exact h1
  · rcases h5 with h5 | h5
    · exact .inl (h5.symm.trans hg)
    · rw [h5] at hg
      exact .inr (Nat.le_of_eq (Option.some.inj hg))
end
theorem wpList_appendN {w : World} {ops : Array Oper} {rest : List Oper} {o : Oper} {a : Act} {Q : Exit → Act → World → Prop} (hgd : o.guard = none) (s x : Operand)
    (ho : o.op = .call { callee := .builtin .append, args := #[s, x], argTypes := #[74, 74] })
    (base : Nat) (sp : Option Addr) (n c : Nat) (l : List Nm) (hs : a.eval s = .slice sp n c) (hn : l.length = n) (hown : OwnN base w sp c l) (B : Nat) (t : Nm) (hx : a.eval x = .slice (some ⟨B, 0, none⟩) 1 1)
    (hB : w.heap[B]? = some (.cells #[.string (str t)] 9 (0, 0))) (hsz : (n + 1) * 16 ≤ 140737488355328) (hbase : base ≤ w.heap.size)
    (hk : ∀ sp' c' w', OwnN base w' sp' c' (l ++ [t]) → Grew w sp w' sp' → wpList Tryz.prog ops Q rest (a.put o.dst (.slice sp' (n + 1) c')) w') :
    wpList Tryz.prog ops Q (o :: rest) a w := by
  subst hn
  refine wpList_plain hgd fun K hK => ?_
  obtain ⟨sp', c', w', hrun, h1, h2⟩ := run_appendN hown B t hB hsz hbase o.type
  unfold Oper.wp
  simp [execOp, ho, resolve, invoke, builtin, hs, hx, hrun, Result.andThen]
  exact hK _ _ (hk sp' c' w' h1 h2)
theorem enter_names (c : Array Value) (w : World) : (callFunc 82 c).run Tryz.prog w = .ok (.enter 82 c) w := by
  simp [callFunc, go_sem, Tryz.func82]
  rw [if_neg (by decide +kernel), if_neg (fun h => by cases h)]
set_option maxRecDepth 20000 in
set_option maxHeartbeats 4000000 in
/-- The variable is not in the row. -/
theorem names1_calls (base : Nat) (x : Nm) (F V : Nat) (sp : Option Addr) (n c : Nat) (l : List Nm) (w : World) (hn : l.length = n) (hV : w.heap[V]? = some (.cells #[.slice sp n c] 74 (0, 0))) (ho : OwnN base w sp c l) (hl : n ≤ 1000) (hbs : base ≤ w.heap.size) :
    Calls Tryz.prog 82 #[.string (str x), .pointer (some ⟨F, 0, none⟩), .pointer (some ⟨V, 0, none⟩)] w fun e w' => e = .returned (.tuple #[]) ∧ ∃ sp' c', w'.heap[V]? = some (.cells #[.slice sp' (n + 1) c'] 74 (0, 0)) ∧ OwnN base w' sp' c' (l ++ [x]) ∧ (∀ g, g < w.heap.size → g ≠ V → blk sp ≠ some g → w'.heap[g]? = w.heap[g]?) ∧ w'.os = w.os ∧ w'.tape = w.tape ∧ w'.output = w.output ∧ w.heap.size ≤ w'.heap.size ∧ (∀ g, blk sp' = some g → blk sp = some g ∨ w.heap.size ≤ g) := by
  have c0 := fcell hV 0 (.slice sp n c) rfl
  have A1 := hide (show Below w.heap.size w (w.alloc (.cells #[.string (str x)] 9)) from (Below.refl _ _).alloc (Nat.le_refl _) _)
  have O1 := hide (ho.later (unhide A1))
  have HV := hide hV
  have HO := hide ho
  have HN := hide hn
  have HB := hide hbs
  clear hV ho hn hbs
  go_enter Tryz.func82, Tryz.ntmps82
  go_wp2_with (at_builtin; refine unhide ?_)
  refine hide ?_
  refine wpList_appendN rfl (.tmp 5) (.tmp 7) rfl base sp n c l rfl (unhide HN) (unhide O1) w.heap.size x rfl (heap_new w _) (by omega) (Nat.le_trans (unhide HB) (unhide A1).size) ?_
  intro sp2 c2 W2 ho2 hg2
  have hVn : blk sp ≠ some V := fun e => by
    obtain ⟨_, _, cur, hc⟩ := (unhide HO).blk_is V e
    rw [unhide HV] at hc; simp at hc
  have hV2 : W2.heap[V]? = some (.cells #[.slice sp n c] 74 (0, 0)) := by
    have hlt := (Array.getElem?_eq_some_iff.1 (unhide HV)).1
    rw [hg2.grown.block V (Nat.lt_of_lt_of_le hlt (unhide A1).size) (fun e => hVn e.symm), (unhide A1).block V hlt]
    exact unhide HV
  have d0 := fcell hV2 0 (.slice sp n c) rfl
  have z0 := ffree hV2 0
  have HV2 := hide hV2
  have HG2 := hide hg2
  have HO2 := hide ho2
  have HVN := hide hVn
  clear hV2 hg2 ho2 hVn
  go_wp2
  go_end0
  have hs := heap_setCell_same W2 V 0 #[.slice sp n c] 74 (.slice sp2 (n + 1) c2) (unhide HV2)
  refine ⟨rfl, sp2, c2, hs, (unhide HO2).same (fun g hg => heap_setCell_other _ ⟨V, 0, none⟩ g _ (fun e => ?_)), fun g h1 h2 h3 => ?_, (unhide HG2).grown.os, (unhide HG2).grown.tape, (unhide HG2).grown.output, ?_, fun g hg => ?_⟩
  · obtain ⟨_, _, cur, hc⟩ := (unhide HO2).blk_is g hg
    have e2 : g = V := e
    rw [e2, unhide HV2] at hc
    simp at hc
  · rw [heap_setCell_other _ ⟨V, 0, none⟩ g _ h2, (unhide HG2).grown.block g (Nat.lt_of_lt_of_le h1 (unhide A1).size) (fun e => h3 e.symm)]
    exact (unhide A1).block g h1
  · have h1 := (unhide HG2).grown.size
    have h2 := (unhide A1).size
    simp only [World.setCell] at *
    simp
    omega
  · rcases (unhide HG2).lies g hg with h1 | h1
    · exact .inl h1
    · exact .inr (Nat.le_trans (unhide A1).size h1)
set_option maxRecDepth 20000 in
theorem dnames_calls {base d M room N : Nat} {w : World} {fs : List Fe} (h : DiskAt base w d M room N fs) : Calls Tryz.prog 38 #[.pointer (some ⟨d, 0, none⟩)] w fun e w' => ∃ sp n c, e = .returned (.slice sp n c) ∧ fs.length = n ∧ OwnN w.heap.size w' sp c (fs.map (·.1)) ∧ Below w.heap.size w w' := by
  have b0 : Below w.heap.size w (w.alloc (.cells #[.slice none 0 0] 74)) := (Below.refl _ _).alloc (Nat.le_refl _) _
  have hW : (w.alloc (.cells #[.slice none 0 0] 74)).heap.size = w.heap.size + 1 := by simp
  have hU0 := heap_new w (.cells #[.slice none 0 0] 74)
  have EC := hide (each_calls base d M room N (w.alloc (.cells #[.slice none 0 0] 74)) fs (h.later b0) 82 #[.pointer (some ⟨w.heap.size, 0, none⟩)] enter_names
    (fun w' => ∃ sp c, w'.heap[w.heap.size]? = some (.cells #[.slice sp fs.length c] 74 (0, 0)) ∧ OwnN w.heap.size w' sp c (fs.map (·.1)) ∧ Below w.heap.size w w') (fun W0 hb => by
      have hbW : Below w.heap.size w W0 := b0.trans (hb.mono b0.size)
      have hW0 := hb.size
      refine ⟨fun i w1 => ∃ sp c, w1.heap[w.heap.size]? = some (.cells #[.slice sp i c] 74 (0, 0)) ∧ i ≤ fs.length ∧ OwnN W0.heap.size w1 sp c ((fs.map (·.1)).take i) ∧ (∀ g, g < W0.heap.size → g ≠ w.heap.size → w1.heap[g]? = W0.heap[g]?) ∧ w1.os = W0.os ∧ w1.tape = W0.tape ∧ w1.output = W0.output ∧ W0.heap.size ≤ w1.heap.size, ?_, ?_, ?_, ?_⟩
      · refine ⟨none, 0, ?_, by omega, OwnN.ofNil _ _, fun _ _ _ => rfl, rfl, rfl, rfl, Nat.le_refl _⟩
        rw [hb.block w.heap.size (by omega)]
        exact hU0
      · rintro i w1 ⟨sp, c, _, _, _, hs, _⟩ g hg1 hg2
        exact hs g hg2 (by omega)
      · rintro i hi w1 ⟨sp, c, hV, hil, ho, hs, hos, hta, hou, hsz⟩
        have hss : ∀ g, g < w.heap.size → w1.heap[g]? = w.heap[g]? := fun g hlt => (hs g (Nat.lt_of_lt_of_le hlt hbW.size) (by omega)).trans (hbW.block g hlt)
        have h1 := h.still hss
        refine ⟨h1.c1, h1.lookAt i hi, ?_⟩
        have h16 := h.few
        refine (names1_calls W0.heap.size fs[i].1 fs[i].2.1 w.heap.size sp i c ((fs.map (·.1)).take i) w1 (by simp; omega) hV ho (by omega) hsz).mono ?_
        rintro e w2 ⟨rfl, sp', c', hV2, ho2, hs2, hos2, hta2, hou2, hsz2, hl2⟩
        refine ⟨rfl, sp', c', hV2, by omega, ?_, fun g h2 h3 => (hs2 g (Nat.lt_of_lt_of_le h2 hsz) h3 (fun e => ?_)).trans (hs g h2 h3), hos2.trans hos, hta2.trans hta, hou2.trans hou, Nat.le_trans hsz hsz2⟩
        · rw [List.take_succ_eq_append_getElem (by simpa using hi), List.getElem_map]
          exact ho2
        · have := (ho.blk_is g e).1
          omega
      · rintro w1 ⟨sp, c, hV, _, ho, hs, hos, hta, hou, hsz⟩
        rw [List.take_of_length_le (by simp)] at ho
        exact ⟨sp, c, hV, ho.mono hbW.size, hos.trans hbW.os, hta.trans hbW.tape, hou.trans hbW.output, Nat.le_trans hbW.size hsz, fun g hg => (hs g (Nat.lt_of_lt_of_le hg hbW.size) (by omega)).trans (hbW.block g hg)⟩))
  clear h b0 hW hU0
  go_enter Tryz.func38, Tryz.ntmps38
  go_wp2_with (go_at_call 72; refine (unhide EC).mono ?_; rintro e W ⟨rfl, sp, c, hU, hO, hB⟩; have c0 := fcell hU 0 _ rfl; have HB := hide hB; have HO := hide hO; clear hU hB hO)
  go_ret
  exact ⟨sp, _, c, rfl, rfl, unhide HO, unhide HB⟩
/-- Texts as they lie in memory. -/
structure TextsAt (w : World) (a : Option Addr) (l : List ByteArray) : Prop where
  sz : ∀ s ∈ l, s.size ≤ maxLen
  cell : ∀ i (hi : i < l.length), ∃ b off, a = some ⟨b, off, none⟩ ∧ w.cell? ⟨b, off + i, none⟩ = some (.string l[i])
theorem TextsAt.later {w w' : World} {a : Option Addr} {l : List ByteArray} (h : TextsAt w a l) (hb : Below w.heap.size w w') : TextsAt w' a l :=
  ⟨h.sz, fun i hi => by obtain ⟨b, off, e, hc⟩ := h.cell i hi; exact ⟨b, off, e, cell_later hb hc⟩⟩
end Go.Proofs.YtijcpmbfhfppmaaGreatDoor
end
/- Disk: contracts over what a disk is by the document, with blocks that lie aside. -/
section
namespace Go.Proofs.YtijcpmbfhfppmaaGreatDoor
open Go.ChangeShapes Go.WideShapes Go.ChangeAt Go.RowKit Go.Maps
set_option linter.unusedVariables false

/-- A disk in memory, from a block on; the blocks of Av lie aside. -/
structure DAt (Av : Nat → Prop) (base : Nat) (w : World) (d M room N : Nat) (ss : Ds) : Prop where
  le : base ≤ w.heap.size
  few : N ≤ 1000000
  at_ : ∃ fs, DiskAt base w d M room N fs ∧ sps fs = ss ∧ ∀ g, Av g → g < w.heap.size ∧ ¬ DMut d M fs g ∧ ¬ DRed fs g
section
variable {Av Bv : Nat → Prop} {base d M room N : Nat} {w w' : World} {ss : Ds}
theorem DAt.av (h : DAt Av base w d M room N ss) (hb : ∀ g, Bv g → Av g) : DAt Bv base w d M room N ss := by
  obtain ⟨fs, h1, h2, h3⟩ := h.at_
  exact ⟨h.le, h.few, fs, h1, h2, fun g hg => h3 g (hb g hg)⟩
theorem DAt.later (h : DAt Av base w d M room N ss) (hb : Below w.heap.size w w') : DAt Av base w' d M room N ss := by
  obtain ⟨fs, h1, h2, h3⟩ := h.at_
  exact ⟨Nat.le_trans h.le hb.size, h.few, fs, h1.later hb, h2, fun g hg => ⟨Nat.lt_of_lt_of_le (h3 g hg).1 hb.size, (h3 g hg).2⟩⟩
theorem DAt.drew (h : DAt Av base w d M room N ss) : DAt Av base w.drew d M room N ss := h.later ((Below.refl _ _).drew)
theorem DAt.mono {N' : Nat} (h : DAt Av base w d M room N ss) (hN : N ≤ N') (hf : N' ≤ 1000000) : DAt Av base w d M room N' ss := by
  obtain ⟨fs, h1, h2, h3⟩ := h.at_
  exact ⟨h.le, hf, fs, h1.mono hN, h2, h3⟩
/-- Blocks that came later lie aside too. -/
theorem DAt.more (h : DAt Av base w d M room N ss) (hb : Below w.heap.size w w') : DAt (fun g => Av g ∨ (w.heap.size ≤ g ∧ g < w'.heap.size)) base w' d M room N ss := by
  obtain ⟨fs, h1, h2, h3⟩ := h.at_
  refine ⟨Nat.le_trans h.le hb.size, h.few, fs, h1.later hb, h2, fun g hg => ?_⟩
  rcases hg with hg | ⟨g1, g2⟩
  · exact ⟨Nat.lt_of_lt_of_le (h3 g hg).1 hb.size, (h3 g hg).2⟩
  · refine ⟨g2, fun hm => ?_, fun hm => ?_⟩
    · have := (h1.mut_lt hm).2; omega
    · have := (h1.red_lt hm).2; omega
/-- What is done to blocks that lie aside leaves a disk as it was. -/
theorem DAt.aside (h : DAt Av base w d M room N ss) (hs : ∀ g, g < w.heap.size → ¬ Av g → w'.heap[g]? = w.heap[g]?) (hz : w.heap.size ≤ w'.heap.size) : DAt Av base w' d M room N ss := by
  obtain ⟨fs, h1, h2, h3⟩ := h.at_
  refine ⟨Nat.le_trans h.le hz, h.few, fs, h1.same (fun g hg hm => hs g hg (fun ha => ?_)), h2, fun g hg => ⟨Nat.lt_of_lt_of_le (h3 g hg).1 hz, (h3 g hg).2⟩⟩
  rcases hm with hm | hm
  · exact (h3 g ha).2.1 hm
  · exact (h3 g ha).2.2 hm
theorem DAt.lt (h : DAt Av base w d M room N ss) {g : Nat} (hg : Av g) : g < w.heap.size := by
  obtain ⟨fs, h1, h2, h3⟩ := h.at_
  exact (h3 g hg).1
theorem DAt.rise (h : DAt Av base w d M room N ss) : Rises ss := by
  obtain ⟨fs, h1, rfl, _⟩ := h.at_
  exact h1.riseS
theorem DAt.len (h : DAt Av base w d M room N ss) : ss.length ≤ 16 := by
  obtain ⟨fs, h1, rfl, _⟩ := h.at_
  rw [List.length_map]
  exact h1.few
theorem DAt.nmlen (h : DAt Av base w d M room N ss) : ∀ x ∈ ss, x.1.length ≤ 64 := by
  obtain ⟨fs, h1, rfl, _⟩ := h.at_
  intro x hx
  obtain ⟨y, hy, rfl⟩ := List.mem_map.1 hx
  exact h1.names y hy
/-- What lies aside stays, and what lay below. -/
structure Asd (Av : Nat → Prop) (base : Nat) (w w' : World) : Prop where
  av : ∀ g, Av g → w'.heap[g]? = w.heap[g]?
  bel : Below base w w'
theorem Asd.refl (Av : Nat → Prop) (base : Nat) (w : World) : Asd Av base w w := ⟨fun _ _ => rfl, Below.refl _ _⟩
theorem Asd.trans {w2 : World} (h : Asd Av base w w') (k : Asd Av base w' w2) : Asd Av base w w2 := ⟨fun g hg => (k.av g hg).trans (h.av g hg), h.bel.trans k.bel⟩
theorem Asd.of (hd : ∀ g, Av g → g < w.heap.size) (hle : base ≤ w.heap.size) (hb : Below w.heap.size w w') : Asd Av base w w' := ⟨fun g hg => hb.block g (hd g hg), hb.mono hle⟩
theorem Asd.sub (h : Asd Av base w w') (hs : ∀ g, Bv g → Av g) : Asd Bv base w w' := ⟨fun g hg => h.av g (hs g hg), h.bel⟩
/-- How a call ends. -/
def AEnd (Av : Nat → Prop) (base d M room N : Nat) (w : World) (r : Nat × Ds) (e : Ending) (w' : World) : Prop := e = .returned (.int .i64 (r.1 : Int)) ∧ DAt Av base w' d M room N r.2 ∧ Asd Av base w w'
theorem AEnd.of {r : Nat × Ds} {e : Ending} {fs : List Fe} (h : DiskAt base w d M room N fs) (hb : base ≤ w.heap.size) (hav : ∀ g, Av g → g < w.heap.size ∧ ¬ DMut d M fs g ∧ ¬ DRed fs g) {N' : Nat} (hN : N' ≤ 1000000) (hE : DEnd base d M room N' w fs r e w') : AEnd Av base d M room N' w r e w' := by
  obtain ⟨he, fs', h1, hg, hs⟩ := hE
  refine ⟨he, ⟨Nat.le_trans hb hg.size, hN, fs', h1, hs, fun g ha => ?_⟩, fun g ha => hg.block g (hav g ha).1 (hav g ha).2.1, DGrew.below h hb hg⟩
  obtain ⟨a1, a2, a3⟩ := hav g ha
  refine ⟨Nat.lt_of_lt_of_le a1 hg.size, fun hm => ?_, fun hm => ?_⟩
  · rcases hg.muts g hm with q | q
    · exact a2 q
    · omega
  · rcases hg.reds g hm with q | q
    · exact a3 q
    · omega
theorem anew_calls (w : World) (z : Int) : Calls Tryz.prog 24 #[.int .i64 z] w fun e w' => ∃ d M, e = .returned (.pointer (some ⟨d, 0, none⟩)) ∧ DAt (fun _ => False) w.heap.size w' d M z.toNat 0 [] ∧ Below w.heap.size w w' := by
  refine (dnew_calls (base := w.heap.size) w (Nat.le_refl _) z).mono ?_
  rintro e W ⟨rfl, h, b⟩
  exact ⟨_, _, rfl, ⟨b.size, by omega, [], h, rfl, fun g hg => hg.elim⟩, b⟩
theorem awrite_calls (h : DAt Av base w d M room N ss) (hN : N + 1 ≤ 1000000) (s : ByteArray) (hs : s.size ≤ maxLen) (z : Int) (hz64 : z ≤ 9223372036854775807) (xp : Option Addr) (xn xc : Nat) (o : List Nat) (ho : o.length = xn) (hxc : xn ≤ xc) (hB : BytesAt w xp o) (hx0 : xp = none → xc = 0) (hlo : ∀ b off, xp = some ⟨b, off, none⟩ → 0 < xn → b < base ∨ Av b) (hxl : xn ≤ 140737488355328) :
    Calls Tryz.prog 36 #[.pointer (some ⟨d, 0, none⟩), .string s, .int .i64 z, .slice xp xn xc] w (AEnd Av base d M room (N + 1) w (dWrite room s.data.toList z o ss)) := by
  obtain ⟨fs, h1, rfl, h3⟩ := h.at_
  refine (dwrite_calls h1 h.le h.few s hs z hz64 xp xn xc o ho hxc hB hx0 (fun b off e h0 hm => ?_) hxl).mono fun e w' hE => AEnd.of h1 h.le h3 hN hE
  have := (h1.mut_lt hm).1
  rcases hlo b off e h0 with q | q
  · omega
  · exact (h3 b q).2.1 hm
theorem async_calls (h : DAt Av base w d M room N ss) (s : ByteArray) (hs : s.size ≤ maxLen) :
    Calls Tryz.prog 37 #[.pointer (some ⟨d, 0, none⟩), .string s] w (AEnd Av base d M room N w (dSync s.data.toList ss)) := by
  obtain ⟨fs, h1, rfl, h3⟩ := h.at_
  exact (dsync_calls h1 h.le s hs).mono fun e w' hE => AEnd.of h1 h.le h3 h.few hE
theorem acut_calls (h : DAt Av base w d M room N ss) (hN : N + 1 ≤ 1000000) (s : ByteArray) (hs : s.size ≤ maxLen) (z : Int) :
    Calls Tryz.prog 102 #[.pointer (some ⟨d, 0, none⟩), .string s, .int .i64 z] w (AEnd Av base d M room (N + 1) w (dCut s.data.toList z ss)) := by
  obtain ⟨fs, h1, rfl, h3⟩ := h.at_
  exact (dcut_calls h1 h.le h.few s hs z).mono fun e w' hE => AEnd.of h1 h.le h3 hN hE
theorem aremove_calls (h : DAt Av base w d M room N ss) (s : ByteArray) (hs : s.size ≤ maxLen) :
    Calls Tryz.prog 97 #[.pointer (some ⟨d, 0, none⟩), .string s] w (AEnd Av base d M room N w (dRemove s.data.toList ss)) := by
  obtain ⟨fs, h1, rfl, h3⟩ := h.at_
  exact (dremove_calls h1 s hs).mono fun e w' hE => AEnd.of h1 h.le h3 h.few hE
theorem arename_calls (h : DAt Av base w d M room N ss) (a b : ByteArray) (ha : a.size ≤ maxLen) (hb : b.size ≤ maxLen) :
    Calls Tryz.prog 130 #[.pointer (some ⟨d, 0, none⟩), .string a, .string b] w (AEnd Av base d M room N w (dRename a.data.toList b.data.toList ss)) := by
  obtain ⟨fs, h1, rfl, h3⟩ := h.at_
  exact (drename_calls h1 a b ha hb).mono fun e w' hE => AEnd.of h1 h.le h3 h.few hE
theorem acrash_calls (h : DAt Av base w d M room N ss) (kp : Option Addr) (kn kc : Nat) (ks : List Int) (hks : ks.length = kn) (hI : IntsAt w kp ks) (hlo : ∀ b off, kp = some ⟨b, off, none⟩ → 0 < ks.length → b < base ∨ Av b) :
    Calls Tryz.prog 32 #[.pointer (some ⟨d, 0, none⟩), .slice kp kn kc] w fun e w' => e = .returned (.tuple #[]) ∧ DAt Av base w' d M room N (crashS ks 0 ss) ∧ Asd Av base w w' := by
  obtain ⟨fs, h1, rfl, h3⟩ := h.at_
  refine (dcrash_calls h1 h.le h.few kp kn kc ks hks hI (fun b off e h0 hm => ?_)).mono ?_
  · have := (h1.mut_lt hm).1
    rcases hlo b off e h0 with q | q
    · omega
    · exact (h3 b q).2.1 hm
  · rintro e W ⟨rfl, fs', h2, hg, hs⟩
    have hE : DEnd base d M room N w fs (0, crashS ks 0 (sps fs)) (.returned (.int .i64 ((0 : Nat) : Int))) W := ⟨rfl, fs', h2, hg, hs⟩
    obtain ⟨_, q1, q2⟩ := AEnd.of h1 h.le h3 h.few hE
    exact ⟨rfl, q1, q2⟩
theorem aread_yes (h : DAt Av base w d M room N ss) (s : ByteArray) (hs : s.size ≤ maxLen) (x : Sp) (hx : getS s.data.toList ss = some x) :
    Calls Tryz.prog 35 #[.pointer (some ⟨d, 0, none⟩), .string s] w fun e w' => ∃ sp n, e = .returned (.tuple #[.slice sp n n, .int .i64 0]) ∧ x.now.length = n ∧ n ≤ 262144 ∧ Bx w.heap.size w' sp n x.now ∧ Below w.heap.size w w' := by
  obtain ⟨fs, h1, rfl, _⟩ := h.at_
  rw [sps_get, Option.map_eq_some_iff] at hx
  obtain ⟨⟨F, f⟩, hx, rfl⟩ := hx
  exact dread_yes h1 s hs F f hx
theorem aread_no (h : DAt Av base w d M room N ss) (s : ByteArray) (hs : s.size ≤ maxLen) (hx : getS s.data.toList ss = none) :
    Calls Tryz.prog 35 #[.pointer (some ⟨d, 0, none⟩), .string s] w fun e w' => e = .returned (.tuple #[.slice none 0 0, .int .i64 8]) ∧ w' = w := by
  obtain ⟨fs, h1, rfl, _⟩ := h.at_
  rw [sps_get, Option.map_eq_none_iff] at hx
  exact dread_no h1 s hs hx
theorem anames_calls (h : DAt Av base w d M room N ss) : Calls Tryz.prog 38 #[.pointer (some ⟨d, 0, none⟩)] w fun e w' => ∃ sp n c, e = .returned (.slice sp n c) ∧ ss.length = n ∧ OwnN w.heap.size w' sp c (ss.map (·.1)) ∧ Below w.heap.size w w' := by
  obtain ⟨fs, h1, rfl, _⟩ := h.at_
  refine (dnames_calls h1).mono ?_
  rintro e W ⟨sp, n, c, rfl, hn, ho, hb⟩
  refine ⟨sp, n, c, rfl, by rw [List.length_map]; exact hn, ?_, hb⟩
  rw [List.map_map]
  exact ho
end
end Go.Proofs.YtijcpmbfhfppmaaGreatDoor
end
