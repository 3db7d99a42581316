/- Disk: Crash. -/
import Derived.Test.YtijcpmbfhfppmaaGreatDoorDki
namespace Go.Proofs.YtijcpmbfhfppmaaGreatDoor
open Go.ChangeShapes Go.WideShapes Go.ChangeAt Go.RowKit Go.Maps

section
variable {base d M room N : Nat} {w w' w2 : World} {fs fs' : List Fe}
theorem IntsAt.same {w w' : World} {a : Option Addr} {l : List Int} (h : IntsAt w a l) (hs : ∀ b off, a = some ⟨b, off, none⟩ → 0 < l.length → w'.heap[b]? = w.heap[b]?) : IntsAt w' a l :=
  ⟨h.bd, fun i hi => by
    obtain ⟨b, off, e, hc⟩ := h.cell i hi
    exact ⟨b, off, e, by rw [World.cell?_of_block (w := w) (w' := w') (hs b off e (by omega))]; exact hc⟩⟩
set_option maxRecDepth 20000 in
set_option maxHeartbeats 4000000 in
theorem dcrash_calls (h : DiskAt base w d M room N fs) (hbs : base ≤ w.heap.size) (hN : N ≤ 1000000) (kp : Option Addr) (kn kc : Nat) (ks : List Int) (hks : ks.length = kn) (hI : IntsAt w kp ks) (hne : ∀ b off, kp = some ⟨b, off, none⟩ → 0 < ks.length → ¬ DMut d M fs b) :
    Calls Tryz.prog 32 #[.pointer (some ⟨d, 0, none⟩), .slice kp kn kc] w fun e w' => e = .returned (.tuple #[]) ∧ ∃ fs', DiskAt base w' d M room N fs' ∧ DGrew d M w fs w' fs' ∧ sps fs' = crashS ks 0 (sps fs) := by
  have b1 : Below w.heap.size w (w.alloc (.cells #[.pointer (some ⟨d, 0, none⟩)] 38)) := (Below.refl _ _).alloc (Nat.le_refl _) _
  have b2 : Below w.heap.size w ((w.alloc (.cells #[.pointer (some ⟨d, 0, none⟩)] 38)).alloc (.cells #[.slice kp kn kc] 32)) := b1.alloc b1.size _
  have b3 : Below w.heap.size w (((w.alloc (.cells #[.pointer (some ⟨d, 0, none⟩)] 38)).alloc (.cells #[.slice kp kn kc] 32)).alloc (.cells #[.int .i64 0] 3)) := b2.alloc b2.size _
  have s1 : (w.alloc (.cells #[.pointer (some ⟨d, 0, none⟩)] 38)).heap.size = w.heap.size + 1 := by simp
  have s2 : ((w.alloc (.cells #[.pointer (some ⟨d, 0, none⟩)] 38)).alloc (.cells #[.slice kp kn kc] 32)).heap.size = w.heap.size + 2 := by simp
  have s3 : (((w.alloc (.cells #[.pointer (some ⟨d, 0, none⟩)] 38)).alloc (.cells #[.slice kp kn kc] 32)).alloc (.cells #[.int .i64 0] 3)).heap.size = w.heap.size + 3 := by simp
  have hQ : (((w.alloc (.cells #[.pointer (some ⟨d, 0, none⟩)] 38)).alloc (.cells #[.slice kp kn kc] 32)).alloc (.cells #[.int .i64 0] 3)).heap[w.heap.size]? = some (.cells #[.pointer (some ⟨d, 0, none⟩)] 38 (0, 0)) := by
    rw [Below.heap_alloc _ _ _ (by omega), Below.heap_alloc _ _ _ (by omega)]; exact heap_new _ _
  have hK : (((w.alloc (.cells #[.pointer (some ⟨d, 0, none⟩)] 38)).alloc (.cells #[.slice kp kn kc] 32)).alloc (.cells #[.int .i64 0] 3)).heap[w.heap.size + 1]? = some (.cells #[.slice kp kn kc] 32 (0, 0)) := by
    rw [Below.heap_alloc _ _ _ (by omega), ← s1]; exact heap_new _ _
  have hP : (((w.alloc (.cells #[.pointer (some ⟨d, 0, none⟩)] 38)).alloc (.cells #[.slice kp kn kc] 32)).alloc (.cells #[.int .i64 0] 3)).heap[w.heap.size + 2]? = some (.cells #[.int .i64 0] 3 (0, 0)) := by
    rw [← s2]; exact heap_new _ _
  have hlow : ∀ g, DMut d M fs g ∨ DRed fs g → g < w.heap.size := fun g hg => hg.elim (fun hh => (h.mut_lt hh).2) (fun hh => (h.red_lt hh).2)
  have EC := hide (show ∀ W3 : World, Below w.heap.size w W3 → W3.heap.size = w.heap.size + 3 → W3.heap[w.heap.size]? = some (.cells #[.pointer (some ⟨d, 0, none⟩)] 38 (0, 0)) → W3.heap[w.heap.size + 1]? = some (.cells #[.slice kp kn kc] 32 (0, 0)) → W3.heap[w.heap.size + 2]? = some (.cells #[.int .i64 0] 3 (0, 0)) →
      Calls Tryz.prog 72 #[.pointer (some ⟨d, 0, none⟩), .func (.func 73) #[] #[.pointer (some ⟨w.heap.size + 2, 0, none⟩), .pointer (some ⟨w.heap.size + 1, 0, none⟩), .pointer (some ⟨w.heap.size, 0, none⟩)]] W3 fun e w' => e = .returned (.tuple #[]) ∧ ∃ fs', DiskAt base w' d M room N fs' ∧ DGrew d M w fs w' fs' ∧ sps fs' = crashS ks 0 (sps fs) from fun W3 b3 s3 hQ hK hP =>
    each_calls base d M room N W3 fs (h.later b3) 73 _ enter_crash
    (fun w' => ∃ fs', DiskAt base w' d M room N fs' ∧ DGrew d M w fs w' fs' ∧ sps fs' = crashS ks 0 (sps fs)) (fun W0 hb => by
      have hb0 : Below w.heap.size w W0 := b3.trans (hb.mono b3.size)
      have hW0 : w.heap.size + 3 ≤ W0.heap.size := by have := hb.size; omega
      refine ⟨fun i w1 => ∃ p', DiskAt base w1 d M room N (p' ++ fs.drop i) ∧ sps p' ++ crashS ks i (sps (fs.drop i)) = crashS ks 0 (sps fs) ∧ (∀ g, DMut d M (p' ++ fs.drop i) g → DMut d M fs g ∨ W0.heap.size ≤ g) ∧ (∀ g, DRed (p' ++ fs.drop i) g → DRed fs g ∨ W0.heap.size ≤ g) ∧ w1.heap[w.heap.size + 2]? = some (.cells #[.int .i64 (i : Int)] 3 (0, 0)) ∧ (∀ g, g < W0.heap.size → ¬ DMut d M fs g → g ≠ w.heap.size + 2 → w1.heap[g]? = W0.heap[g]?) ∧ (w1.os = W0.os ∧ w1.tape = W0.tape ∧ w1.output = W0.output ∧ W0.heap.size ≤ w1.heap.size), ?_, ?_, ?_, ?_⟩
      · refine ⟨[], h.later hb0, by simp [sps], fun g hg => .inl hg, fun g hg => .inl hg, ?_, fun g _ _ _ => rfl, rfl, rfl, rfl, Nat.le_refl _⟩
        rw [hb.block _ (by omega)]; exact hP
      · rintro i w1 ⟨p', _, _, _, _, _, hs, _⟩ g hg1 hg2
        exact hs g hg2 (fun hm => by have := hlow g (.inl hm); omega) (by omega)
      · rintro i hi w1 ⟨p', hd, hsp, hmu, hre, hP1, hs, ho, ht, hou, hsz⟩
        have hdrop : fs.drop i = fs[i] :: fs.drop (i + 1) := List.drop_eq_getElem_cons hi
        rw [hdrop] at hd hsp hmu hre
        have hx : fs[i] ∈ p' ++ fs[i] :: fs.drop (i + 1) := List.mem_append_right _ List.mem_cons_self
        have hnm := hd.names _ hx
        refine ⟨hd.c1, (hd.map.look_yes (str fs[i].1) (by rw [str_size]; simp only [maxLen]; omega) fs[i].2.1 (List.mem_map.2 ⟨fs[i], hx, rfl⟩)).2, ?_⟩
        have hsame : ∀ g, w.heap.size ≤ g → g < w.heap.size + 2 → w1.heap[g]? = W3.heap[g]? := fun g h1 h2 => (hs g (by omega) (fun hm => by have := hlow g (.inl hm); omega) (by omega)).trans (hb.block g (by omega))
        have hi16 := h.few
        refine (crash1_calls p' (fs.drop (i + 1)) fs[i] hd (Nat.le_trans hbs (Nat.le_trans hb0.size hsz)) hN (w.heap.size + 2) (w.heap.size + 1) w.heap.size i (by omega) hP1 kp kn kc ((hsame _ (by omega) (by omega)).trans hK) ((hsame _ (by omega) (by omega)).trans hQ) ks hks (hI.same (fun b off e h0 => ?_))).mono ?_
        · have hbl : b < w.heap.size := by
            obtain ⟨b', off', e1, e2⟩ := hI.cell 0 h0
            rw [e1] at e
            have hbb : b' = b := by simpa using congrArg (fun x => x.map Addr.block) e
            have := World.block_lt_of_cell? _ _ e2
            simp only at this
            omega
          exact (hs b (Nat.lt_of_lt_of_le hbl hb0.size) (hne b off e h0) (by omega)).trans (hb0.block b hbl)
        · rintro e w2 ⟨rfl, hv⟩
          refine ⟨rfl, ?_⟩
          obtain ⟨p2, k1, k2, k3, k4⟩ := hv.left
          refine ⟨p2, k1, ?_, fun g hg => ?_, fun g hg => ?_, hv.cnt, fun g h1 h2 h3 => ?_, hv.os.trans ho, hv.tape.trans ht, hv.output.trans hou, Nat.le_trans hsz hv.size⟩
          · rw [k4, List.append_assoc, ← hsp]
            rfl
          · rcases k2 g hg with h1 | h1
            · exact hmu g h1
            · exact .inr (Nat.le_trans hsz h1)
          · rcases k3 g hg with h1 | h1
            · exact hre g h1
            · exact .inr (Nat.le_trans hsz h1)
          · refine (hv.same g (Nat.lt_of_lt_of_le h1 hsz) (fun hm => ?_) h3).trans (hs g h1 h2 h3)
            rcases hmu g hm with h4 | h4
            · exact h2 h4
            · omega
      · rintro w1 ⟨p', hd, hsp, hmu, hre, hP1, hs, ho, ht, hou, hsz⟩
        rw [List.drop_length, List.append_nil] at hd hmu hre
        rw [List.drop_length] at hsp
        refine ⟨p', hd, ⟨ho.trans hb0.os, ht.trans hb0.tape, hou.trans hb0.output, Nat.le_trans hb0.size hsz, fun g hg hn => ?_, fun g hg => (hmu g hg).imp id (Nat.le_trans hb0.size), fun g hg => (hre g hg).imp id (Nat.le_trans hb0.size)⟩, ?_⟩
        · exact (hs g (Nat.lt_of_lt_of_le hg hb0.size) hn (by omega)).trans (hb0.block g hg)
        · rw [← hsp]
          show sps p' = sps p' ++ crashS ks fs.length (sps [])
          rw [show sps [] = [] from rfl, crashS, List.append_nil]))
  have EC2 := hide (unhide EC _ b3 s3 hQ hK hP)
  clear EC h hbs hI hne b1 b2 b3 s1 s2 s3 hQ hK hP hlow
  go_enter Tryz.func32, Tryz.ntmps32
  go_wp2_with (go_at_call 72; refine (unhide EC2).mono ?_; rintro e W ⟨rfl, hE⟩; have HE := hide hE; clear hE)
  go_end0
  exact ⟨rfl, unhide HE⟩
end
end Go.Proofs.YtijcpmbfhfppmaaGreatDoor
