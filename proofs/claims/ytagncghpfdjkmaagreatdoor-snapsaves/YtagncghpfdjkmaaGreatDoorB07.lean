/- Disk: a file comes to the map. -/
import Derived.Test.YtagncghpfdjkmaaGreatDoorB06
import Derived.Deep.RegionHeld3
import Derived.Test.YtagncghpfdjkmaaGreatDoorB01
import Derived.Test.YtagncghpfdjkmaaGreatDoorRows
import Derived.ShutString
import Derived.ChangeOld
import Derived.SizedLaws
section
namespace Go.Proofs.YtagncghpfdjkmaaGreatDoor
open Go.ChangeShapes Go.WideShapes Go.ChangeAt Go.RowKit Go.Maps

section
variable {base d M room N : Nat} {w w' w0 : World} {fs fs' : List Fe}
theorem DiskAt.drew (h : DiskAt base w d M room N fs) : DiskAt base w.drew d M room N fs := h.still (fun _ _ => rfl)
theorem DiskAt.inj (h : DiskAt base w d M room N fs) {y z a b : Fe} (hy : y ∈ fs) (hz : z ∈ fs) (hne : y.1 ≠ z.1) (ha : a ∈ fs) (hb : b ∈ fs) (ea : y.2 = a.2) (eb : z.2 = b.2) : a.1 ≠ b.1 := by
  intro e
  have := h.rise.one ha hb e
  subst this
  have h1 : y.2.1 = z.2.1 := by rw [ea, eb]
  exact h.ap y hy z hz hne y.2.1 (.inl rfl) (by rw [h1]; exact .inl rfl)
theorem DiskAt.restore (h : DiskAt base w d M room N fs) (x : Fe) (hx : x ∈ fs) (hgr : w.grownBy w' (some M)) (hm : MapAt w' M (putF x.1 x.2.1 (ptrs fs))) : DiskAt base w' d M room N fs ∧ DGrew d M w fs w' fs := by
  rw [putF_same (h.rise.map (fun x : Nat × Fil => x.1)) (List.mem_map.2 ⟨x, hx, rfl⟩)] at hm
  exact h.remap hgr hm h.rise (fun y hy => ⟨h.names y hy, y, hy, rfl⟩) (fun y hy z hz hne a ha b hb ea eb => h.inj hy hz hne ha hb ea eb) h.few
/-- A new file comes to it. -/
theorem DiskAt.add (h : DiskAt base w d M room N fs) (k : Nm) (hk : k.length ≤ 64) (hnew : getS k fs = none) (F : Nat) (f : Fil) (hf : FileAt base w F f) (hok : FOk N f) (hfew : fs.length < 16)
    (hmut : ∀ g, f.mut F g → w0.heap.size ≤ g) (hred : ∀ g, f.red g → w0.heap.size ≤ g) (h0 : ∀ g, DMut d M fs g ∨ DRed fs g → g < w0.heap.size) (hb0 : Below w0.heap.size w0 w) (hgr : w.grownBy w' (some M)) (hm : MapAt w' M (putF k F (ptrs fs))) :
    DiskAt base w' d M room N (putF k (F, f) fs) ∧ DGrew d M w0 fs w' (putF k (F, f) fs) := by
  have hkn := getS_none.1 hnew
  have hmem := fun (y : Fe) => mem_putF (k := k) (v := (F, f)) h.rise y
  have hkk : ∀ g, g < w.heap.size → g ≠ M → w'.heap[g]? = w.heap[g]? := fun g hlt hne => hgr.block g hlt (fun e => hne (Option.some.inj e))
  have hMlt : M < w0.heap.size := h0 M (.inl (.inr (.inl rfl)))
  have hxm : ∀ x ∈ fs, ∀ g, x.mut g → g < w0.heap.size := fun x hx g hg => h0 g (.inl (.inr (.inr ⟨x, hx, hg⟩)))
  have hxr : ∀ x ∈ fs, ∀ g, x.red g → g < w0.heap.size := fun x hx g hg => h0 g (.inr ⟨x, hx, hg⟩)
  refine ⟨⟨(hkk d h.ltD h.dm).trans h.box, by rw [ptrs_put]; exact hm, h.rise.put _ _, ?_, ?_, h.lowD, h.lowM, ?_, ?_, ?_, ?_⟩, ⟨hgr.os.trans hb0.os, hgr.tape.trans hb0.tape, hgr.output.trans hb0.output, Nat.le_trans hb0.size hgr.size, ?_, ?_, ?_⟩⟩
  · intro y hy
    rcases (hmem y).1 hy with rfl | ⟨hy, _⟩
    · refine hf.same (fun g hg => ?_)
      rcases hg with hg | hg
      · exact hkk g (hf.mut_lt hg).2 (fun e => by have := hmut g hg; omega)
      · exact hkk g (hf.red_lt hg).2.1 (fun e => by have := hred g hg; omega)
    · refine (h.file y hy).same (fun g hg => ?_)
      rcases hg with hg | hg
      · exact hkk g ((h.file y hy).mut_lt hg).2 (fun e => (h.notM hy).1 (e ▸ hg))
      · exact hkk g ((h.file y hy).red_lt hg).2.1 (fun e => (h.notM hy).2 (e ▸ hg))
  · intro y hy
    rcases (hmem y).1 hy with rfl | ⟨hy, _⟩
    · exact hok
    · exact h.ok y hy
  · intro y hy z hz hne g hyg hzg
    rcases (hmem y).1 hy with rfl | ⟨hy, _⟩ <;> rcases (hmem z).1 hz with rfl | ⟨hz, _⟩
    · exact hne rfl
    · have h1 := hmut g hyg
      have h2 := hxm z hz g hzg
      omega
    · have h1 := hmut g hzg
      have h2 := hxm y hy g hyg
      omega
    · exact h.ap y hy z hz hne g hyg hzg
  · intro y hy z hz g hyg hzg
    rcases (hmem y).1 hy with rfl | ⟨hy, _⟩ <;> rcases (hmem z).1 hz with rfl | ⟨hz, _⟩
    · exact hf.self hyg hzg
    · have h1 := hmut g hyg
      have h2 := hxr z hz g hzg
      omega
    · have h1 := hred g hzg
      have h2 := hxm y hy g hyg
      omega
    · exact h.rd y hy z hz g hyg hzg
  · rw [putF_length h.rise, if_neg hkn]
    omega
  · intro y hy
    rcases (hmem y).1 hy with rfl | ⟨hy, _⟩
    · exact hk
    · exact h.names y hy
  · intro i hi hn
    exact (hkk i (Nat.lt_of_lt_of_le hi hb0.size) (fun e => hn (.inr (.inl e)))).trans (hb0.block i hi)
  · intro g hg
    rcases hg with e | e | ⟨y, hy, hg⟩
    · exact .inl (.inl e)
    · exact .inl (.inr (.inl e))
    · rcases (hmem y).1 hy with rfl | ⟨hy, _⟩
      · exact .inr (hmut g hg)
      · exact .inl (.inr (.inr ⟨y, hy, hg⟩))
  · rintro g ⟨y, hy, hg⟩
    rcases (hmem y).1 hy with rfl | ⟨hy, _⟩
    · exact .inr (hred g hg)
    · exact .inl ⟨y, hy, hg⟩
theorem FileAt.zero (w : World) (hb : base ≤ w.heap.size) : FileAt base (w.alloc (.cells #[.slice none 0 0, .slice none 0 0, .bool false, .slice none 0 0] 126)) w.heap.size fil0 :=
  ⟨heap_new w _, Bx.ofNil _ _, Bx.ofNil _ _, OwnC.ofNil _ _, hb, fun g hg => (by cases hg), fun x hx => (by simp [fil0] at hx)⟩
theorem fil0_mut (F g : Nat) : fil0.mut F g ↔ g = F := by
  constructor
  · rintro (h | h | h | h)
    · exact h
    · cases h
    · cases h
    · cases h
  · exact .inl
theorem fil0_red (g : Nat) : ¬ fil0.red g := by rintro ⟨x, hx, _⟩; simp [fil0] at hx
set_option maxRecDepth 20000 in
set_option maxHeartbeats 4000000 in
theorem drename_calls (h : DiskAt base w d M room N fs) (a b : ByteArray) (ha : a.size ≤ maxLen) (hb : b.size ≤ maxLen) :
    Calls Tryz.prog 39 #[.pointer (some ⟨d, 0, none⟩), .string a, .string b] w (DEnd base d M room N w fs (dRename a.data.toList b.data.toList (sps fs))) := by
  have HS := hide (sps_get a.data.toList fs)
  cases hg : getS a.data.toList fs with
  | none =>
    have F1 := hide (find_no h a ha hg)
    have E1 := hide (DEnd.stay (w := w) (r := dRename a.data.toList b.data.toList (sps fs)) (e := .returned (.int .i64 8)) h (by simp [dRename, unhide HS, hg]) (by simp [dRename, unhide HS, hg]))
    clear h hg HS
    go_enter Tryz.func39, Tryz.ntmps39
    go_wp2_with (go_at_call 92; refine (unhide F1).mono ?_; rintro e w' ⟨rfl, rfl⟩)
    go_ret
    exact unhide E1
  | some x =>
    obtain ⟨F, f⟩ := x
    have F1 := hide (find_yes h a ha F f hg)
    have hnl := nameOk_list b
    cases hnm : nameOk b with
    | false =>
      have E1 := hide (fun w' (hb : Below w.heap.size w w') => DEnd.below (w := w) (r := dRename a.data.toList b.data.toList (sps fs)) (e := .returned (.int .i64 14)) h (by simp [dRename, unhide HS, hg, ← hnl, hnm]) (by simp [dRename, unhide HS, hg, ← hnl, hnm]) hb)
      clear h hg HS hnl
      go_enter Tryz.func39, Tryz.ntmps39
      go_wp2_with (first
        | (go_at_call 92; refine (unhide F1).mono ?_; rintro e w' ⟨rfl, rfl⟩)
        | (go_at_call 81; refine (isName_calls b _).mono ?_; rintro e W ⟨rfl, b1⟩; have E2 := hide (unhide E1 W b1); clear b1))
      go_ret
      exact unhide E2
    | true =>
      have hb64 : b.data.toList.length ≤ 64 := by
        have := hnm
        simp only [nameOk, Bool.and_eq_true, decide_eq_true_eq] at this
        rw [Array.length_toList]; exact this.2.1
      have E1 := hide (show ∀ W, Below w.heap.size w W → W.cell? ⟨d, 1, none⟩ = some (.map (some M)) ∧ ∃ W1 W2, (∀ ty, (Builtin.delete_ #[103, 9] ty #[.map (some M), .string a]).run Tryz.prog W = .ok (.tuple #[]) W1) ∧ W1.cell? ⟨d, 1, none⟩ = some (.map (some M)) ∧ (Instr.mapUpdate 103 (.map (some M)) (.string b) (.pointer (some ⟨F, 0, none⟩))).run Tryz.prog W1 = .ok () W2 ∧ DEnd base d M room N w fs (dRename a.data.toList b.data.toList (sps fs)) (.returned (.int .i64 0)) W2 from fun W bW => by
        have h1 := h.later bW
        obtain ⟨W1, hd, hm1, hg1, _⟩ := h1.map.drop (h1.rise.map (fun x : Nat × Fil => x.1)) a ha 0
        obtain ⟨W2, hu, hm2, hg2, _⟩ := hm1.store ((h1.rise.map (fun x : Nat × Fil => x.1)).del _) b hb F (by
          have := List.length_filter_le (fun x : Nm × Nat => decide (x.1 ≠ a.data.toList)) (ptrs fs)
          have h3 := h.few
          simp only [delF, ptrs, List.length_map] at this ⊢
          omega)
        refine ⟨h1.c1, W1, W2, fun _ => hd, ?_, hu, ?_⟩
        · exact fcell ((hg1.block d h1.ltD (fun e => h1.dm (Option.some.inj e))).trans h1.box) 1 _ rfl
        · have hmx := getS_some hg
          have hmem := fun (y : Fe) => mem_putF (k := b.data.toList) (v := (F, f)) (h.rise.del a.data.toList) y
          have hx0 : ∀ y ∈ putF b.data.toList (F, f) (delF a.data.toList fs), ∃ x ∈ fs, y.2 = x.2 := fun y hy => by
            rcases (hmem y).1 hy with rfl | ⟨hy, _⟩
            · exact ⟨_, hmx, rfl⟩
            · exact ⟨y, ((mem_delF y).1 hy).1, rfl⟩
          obtain ⟨k1, k2⟩ := h1.remap (fs' := putF b.data.toList (F, f) (delF a.data.toList fs)) (hg1.trans hg2) (by rw [ptrs_put, ptrs_del]; exact hm2) ((h.rise.del _).put _ _) (fun y hy => ⟨by
              rcases (hmem y).1 hy with rfl | ⟨hy, _⟩
              · exact hb64
              · exact h.names y ((mem_delF y).1 hy).1, hx0 y hy⟩) (fun y hy z hz hne p hp q hq ep eq e => by
              have := h.rise.one hp hq e
              subst this
              have h12 : y.2.1 = z.2.1 := by rw [ep, eq]
              rcases (hmem y).1 hy with rfl | ⟨hy, hye⟩ <;> rcases (hmem z).1 hz with rfl | ⟨hz, hze⟩
              · exact hne rfl
              · obtain ⟨hz1, hz2⟩ := (mem_delF z).1 hz
                exact h.ap _ hmx z hz1 (fun e => hz2 e.symm) F (.inl rfl) (by have : F = z.2.1 := h12; rw [this]; exact .inl rfl)
              · obtain ⟨hy1, hy2⟩ := (mem_delF y).1 hy
                exact h.ap y hy1 _ hmx hy2 F (by have : y.2.1 = F := h12; rw [← this]; exact .inl rfl) (.inl rfl)
              · exact h.ap y ((mem_delF y).1 hy).1 z ((mem_delF z).1 hz).1 hne y.2.1 (.inl rfl) (by rw [h12]; exact .inl rfl)) (by
              have h2 := delF_length (k := a.data.toList) h.rise
              rw [if_pos (List.mem_map.2 ⟨_, hmx, rfl⟩)] at h2
              rw [putF_length (h.rise.del _)]
              have := h.few
              split <;> omega)
          have hdr : dRename a.data.toList b.data.toList (sps fs) = (0, putF b.data.toList f.sp (delF a.data.toList (sps fs))) := by
            simp [dRename, unhide HS, hg, ← hnl, hnm]
          rw [hdr]
          refine ⟨rfl, _, k1, (DGrew.ofBelow bW).trans k2, ?_⟩
          rw [sps_put, sps_del])
      clear h hg HS hnl
      go_enter Tryz.func39, Tryz.ntmps39
      go_wp2_with (first
        | (go_at_call 92; refine (unhide F1).mono ?_; rintro e w' ⟨rfl, rfl⟩)
        | (go_at_call 81; refine (isName_calls b _).mono ?_; rintro e W ⟨rfl, b1⟩; obtain ⟨q1, W1, W2, q2, q3, q4, q5⟩ := unhide E1 W b1; have Q5 := hide q5; clear b1 q5))
      go_ret
      exact unhide Q5
end
end Go.Proofs.YtagncghpfdjkmaaGreatDoor
end
/- Disk: Write. -/
section
namespace Go.Proofs.YtagncghpfdjkmaaGreatDoor
open Go.ChangeShapes Go.WideShapes Go.ChangeAt Go.RowKit Go.Maps

section
variable {base d M room N : Nat} {w w' w0 : World} {fs fs' : List Fe}
theorem dwrite_bad (h : DiskAt base w d M room N fs) (s : ByteArray) (z : Int) (xp : Option Addr) (xn xc : Nat) (o : List Nat) (hnm : nameOk s = false) :
    Calls Tryz.prog 28 #[.pointer (some ⟨d, 0, none⟩), .string s, .int .i64 z, .slice xp xn xc] w (DEnd base d M room (N + 1) w fs (dWrite room s.data.toList z o (sps fs))) := by
  have hd : dWrite room s.data.toList z o (sps fs) = (14, sps fs) := by
    unfold dWrite
    rw [← nameOk_list, if_pos hnm]
  rw [hd]
  have E1 := hide (fun w' (hb : Below w.heap.size w w') => DEnd.below (w := w) (r := (14, sps fs)) (e := .returned (.int .i64 14)) (h.mono (Nat.le_succ N)) rfl rfl hb)
  clear h hd
  go_enter Tryz.func28, Tryz.ntmps28
  go_wp2_with (go_at_call 81; refine (isName_calls s _).mono ?_; rintro e W ⟨rfl, b1⟩; have E2 := hide (unhide E1 W b1); clear b1)
  go_ret
  exact unhide E2
set_option maxRecDepth 20000 in
set_option maxHeartbeats 40000000 in
/-- Of a file that is there. -/
theorem dwrite_old (h : DiskAt base w d M room N fs) (hbs : base ≤ w.heap.size) (hN : N ≤ 1000000) (s : ByteArray) (hs : s.size ≤ maxLen) (hnm : nameOk s = true) (F : Nat) (f : Fil) (hg : getS s.data.toList fs = some (F, f)) (z : Int) (hz64 : z ≤ 9223372036854775807) (xp : Option Addr) (xn xc : Nat) (o : List Nat) (ho : o.length = xn) (hxc : xn ≤ xc) (hB : BytesAt w xp o) (hx0 : xp = none → xc = 0) (hne : ∀ b off, xp = some ⟨b, off, none⟩ → 0 < xn → ¬ DMut d M fs b) (hxl : xn ≤ 140737488355328) :
    Calls Tryz.prog 28 #[.pointer (some ⟨d, 0, none⟩), .string s, .int .i64 z, .slice xp xn xc] w (DEnd base d M room (N + 1) w fs (dWrite room s.data.toList z o (sps fs))) := by
  have hm := getS_some hg
  have hgs : getS s.data.toList (sps fs) = some f.sp := by rw [sps_get, hg]; rfl
  have hn : f.sp.now = f.b := h.nows hm
  have h8 : f.b.length ≤ 262144 := (h.ok _ hm).b8
  have hd : dWrite room s.data.toList z o (sps fs) = if z < 0 ∨ z > f.b.length then (2, sps fs) else if (xn : Int) > 262144 - z then (6, sps fs) else if (usedS (sps fs) : Int) + max (z + xn - f.b.length) 0 > room then (9, sps fs) else (0, putF s.data.toList (wrote f.sp z.toNat o) (sps fs)) := by
    unfold dWrite
    rw [← nameOk_list, hgs, hnm, if_neg (by simp)]
    simp only [Option.getD_some, Option.isNone_some, Bool.false_eq_true, false_and, false_or, hn, ho]
  rw [hd]
  have EB := hide (fun w' (hb : Below w.heap.size w w') (k : Nat) => DEnd.below (w := w) (r := (k, sps fs)) (e := .returned (.int .i64 (k : Int))) (h.mono (Nat.le_succ N)) rfl rfl hb)
  have LK := hide (fun W (hb : Below w.heap.size w W) => show W.cell? ⟨d, 1, none⟩ = some (.map (some M)) ∧ (Instr.lookup 103 (.map (some M)) (.string s) true).run Tryz.prog W = .ok (.tuple #[.pointer (some ⟨F, 0, none⟩), .bool true]) W ∧ W.cell? ⟨F, 0, none⟩ = some (.slice f.bp f.b.length f.bc) from
    ⟨(h.later hb).c1, ((h.later hb).map.look_yes s hs F (List.mem_map.2 ⟨_, hm, rfl⟩)).1, ((h.later hb).file _ hm).c0⟩)
  by_cases hA : z < 0 ∨ z > f.b.length
  · rw [if_pos hA]
    clear h hbs hg hm hgs hn hB hne hd
    generalize f.b.length = n at *
    by_cases hz0 : z < 0
    · clear hA
      go_enter Tryz.func28, Tryz.ntmps28
      go_wp2_with (go_at_call 81; refine (isName_calls s _).mono ?_; rintro e W ⟨rfl, b1⟩; obtain ⟨q1, q2, q3⟩ := unhide LK W b1; have E2 := hide (unhide EB W b1 2); clear b1)
      go_ret
      exact unhide E2
    · have hz1 : (n : Int) < z := by omega
      clear hA
      go_enter Tryz.func28, Tryz.ntmps28
      go_wp2_with (go_at_call 81; refine (isName_calls s _).mono ?_; rintro e W ⟨rfl, b1⟩; obtain ⟨q1, q2, q3⟩ := unhide LK W b1; have E2 := hide (unhide EB W b1 2); clear b1)
      go_ret
      exact unhide E2
  · rw [if_neg hA]
    obtain ⟨k, rfl⟩ : ∃ k : Nat, z = (k : Int) := ⟨z.toNat, by omega⟩
    have hk : k ≤ f.b.length := by omega
    have hz0 : ¬ ((k : Int) < 0) := by omega
    have hz1 : ¬ ((f.b.length : Int) < (k : Int)) := by omega
    have hw3 : IntKind.i64.wrap (262144 - (k : Int)) = 262144 - (k : Int) := by rw [IntKind.wrap_i64]; omega
    by_cases hC : (xn : Int) > 262144 - (k : Int)
    · rw [if_pos hC]
      have hC2 : (262144 - (k : Int)) < (xn : Int) := hC
      clear h hbs hg hm hgs hn hB hne hd hA hk hC
      generalize f.b.length = n at *
      go_enter Tryz.func28, Tryz.ntmps28
      go_wp2_with (go_at_call 81; refine (isName_calls s _).mono ?_; rintro e W ⟨rfl, b1⟩; obtain ⟨q1, q2, q3⟩ := unhide LK W b1; have E2 := hide (unhide EB W b1 6); clear b1)
      go_ret
      exact unhide E2
    · rw [if_neg hC]
      have hC2 : ¬ ((262144 - (k : Int)) < (xn : Int)) := hC
      have hw1 : IntKind.i64.wrap ((k : Int) + (xn : Int)) = (k : Int) + (xn : Int) := by rw [IntKind.wrap_i64]; omega
      have hw2 : IntKind.i64.wrap ((k : Int) + (xn : Int) - (f.b.length : Int)) = (k : Int) + (xn : Int) - (f.b.length : Int) := by rw [IntKind.wrap_i64]; omega
      obtain ⟨G, hG⟩ : ∃ G : Nat, max ((k : Int) + (xn : Int) - (f.b.length : Int)) 0 = (G : Int) := ⟨((k : Int) + (xn : Int) - (f.b.length : Int)).toNat, by omega⟩
      have hGl : G ≤ 262144 := by omega
      rw [hG]
      have hul : usedS (sps fs) ≤ 4194304 := by rw [h.usedS]; exact h.used_le
      have UC := hide (fun W (hb : Below w.heap.size w W) => dused_calls (h.later hb).drew)
      have RC := hide (fun W (hb : Below w.heap.size w W) => (h.later hb).c0)
      have hw4 : IntKind.i64.wrap ((usedS (sps fs) : Int) + (G : Int)) = (usedS (sps fs) : Int) + (G : Int) := by rw [IntKind.wrap_i64]; omega
      by_cases hD : (usedS (sps fs) : Int) + (G : Int) > (room : Int)
      · rw [if_pos hD]
        have hD2 : (room : Int) < (usedS (sps fs) : Int) + (G : Int) := hD
        clear h hbs hg hm hgs hn hB hne hd hA hk hC hD
        generalize f.b.length = n at *
        generalize usedS (sps fs) = u at *
        go_enter Tryz.func28, Tryz.ntmps28
        go_wp2_with (go_at_call 81; refine (isName_calls s _).mono ?_; rintro e W ⟨rfl, b1⟩; obtain ⟨q1, q2, q3⟩ := unhide LK W b1; have r0 := unhide RC W b1; have B1 := hide b1; clear b1)
        go_region_held3 (fun w' => w'.cell? ⟨d, 0, none⟩ = some (.int .i64 (room : Int))) (first | go_keep | exact r0 | exact r1) (first
          | (go_at_call 35
             refine (unhide UC W (unhide B1)).mono ?_
             rintro e W2 ⟨rfl, b2⟩
             have B2 := hide (show Below w.heap.size w W2 from (unhide B1).trans (Below.mono ⟨b2.os, b2.tape, b2.output, b2.size, b2.block⟩ (unhide B1).size))
             have r1 := unhide RC W2 (unhide B2)
             have E2 := hide (unhide EB W2 (unhide B2) 9)
             clear b2))
        all_goals
          go_wp2
          go_ret
          exact unhide E2
      · rw [if_neg hD]
        have hD2 : ¬ ((room : Int) < (usedS (sps fs) : Int) + (G : Int)) := hD
        have EC := hide (show ∀ W, Below w.heap.size w W → ∃ P : Ending → World → Prop, Calls Tryz.prog 82 #[.pointer (some ⟨F, 0, none⟩), .int .i64 (k : Int), .slice xp xn xc] W P ∧ ∀ e W3, P e W3 → e = .returned (.tuple #[]) ∧ W3.cell? ⟨d, 1, none⟩ = some (.map (some M)) ∧ ∃ W4, (Instr.mapUpdate 103 (.map (some M)) (.string s) (.pointer (some ⟨F, 0, none⟩))).run Tryz.prog W3 = .ok () W4 ∧ DEnd base d M room (N + 1) w fs (0, putF s.data.toList (wrote f.sp k o) (sps fs)) (.returned (.int .i64 0)) W4 from fun W bW => by
          have h1 := h.later bW
          have hb1 : base ≤ W.heap.size := Nat.le_trans hbs bW.size
          have hfin : ∀ W3 f', FileAt base W3 F f' → FGrew F W f W3 f' → FOk (N + 1) f' → f'.sp = wrote f.sp k o → W3.cell? ⟨d, 1, none⟩ = some (.map (some M)) ∧ ∃ W4, (Instr.mapUpdate 103 (.map (some M)) (.string s) (.pointer (some ⟨F, 0, none⟩))).run Tryz.prog W3 = .ok () W4 ∧ DEnd base d M room (N + 1) w fs (0, putF s.data.toList (wrote f.sp k o) (sps fs)) (.returned (.int .i64 0)) W4 := by
            intro W3 f' hf hgw hok hsp
            obtain ⟨k1, k2⟩ := h1.upd (w' := W3) hm hf hgw hok (Nat.le_succ N)
            obtain ⟨W4, hu, hm4, hg4, _⟩ := k1.map.store (k1.rise.map (fun x : Nat × Fil => x.1)) s hs F (by rw [ptrs, List.length_map]; exact Nat.le_trans k1.few (by omega))
            obtain ⟨k3, k4⟩ := k1.restore (w' := W4) (s.data.toList, F, f') ((mem_putF h.rise _).2 (.inl rfl)) hg4 hm4
            refine ⟨k1.c1, W4, hu, rfl, _, k3, (DGrew.ofBelow bW).trans (k2.trans k4), ?_⟩
            rw [sps_put, hsp]
          by_cases h0 : xn = 0
          · subst h0
            have ho0 : o = [] := List.eq_nil_of_length_eq_zero ho
            refine ⟨_, write_none base W F f (h1.file _ hm) k hk xp xc hx0 (by omega) hb1, ?_⟩
            rintro e W3 ⟨rfl, bp, bc, hf, hgw⟩
            refine ⟨rfl, hfin W3 _ hf hgw (((h.ok _ hm).over0 k bp bc).mono (Nat.le_succ N)) ?_⟩
            simp [wrote, ho0, Fil.over, Fil.sp]
          · have hp : 0 < xn := Nat.pos_of_ne_zero h0
            refine ⟨_, write_some base W F f (h1.file _ hm) k hk xp xn xc o ho hp hxc (hB.later bW) hx0 (fun b off e hmu => hne b off e hp (.inr (.inr ⟨_, hm, hmu⟩))) (by omega) (by have := (h.ok _ hm).few; simp only at this; omega) hb1, ?_⟩
            rintro e W3 ⟨rfl, bp, bc, cp, cc, dp, hf, hgw⟩
            refine ⟨rfl, hfin W3 _ hf hgw ((h.ok _ hm).write k hk o (by omega) (by omega) bp bc cp cc (dp, xn)) ?_⟩
            simp only [wrote]
            rw [if_neg (by omega)]
            simp [Fil.sp, Fil.more, Fil.over])
        rw [Int.toNat_natCast]
        clear h hbs hg hm hgs hn hB hne hd hA hk hC hD
        generalize f.b.length = n at *
        generalize usedS (sps fs) = u at *
        go_enter Tryz.func28, Tryz.ntmps28
        go_wp2_with (go_at_call 81; refine (isName_calls s _).mono ?_; rintro e W ⟨rfl, b1⟩; obtain ⟨q1, q2, q3⟩ := unhide LK W b1; have r0 := unhide RC W b1; have B1 := hide b1; clear b1)
        go_region_held3 (fun w' => w'.cell? ⟨d, 0, none⟩ = some (.int .i64 (room : Int))) (first | go_keep | exact r0 | exact r1) (first
          | (go_at_call 35
             refine (unhide UC W (unhide B1)).mono ?_
             rintro e W2 ⟨rfl, b2⟩
             have B2 := hide (show Below w.heap.size w W2 from (unhide B1).trans (Below.mono ⟨b2.os, b2.tape, b2.output, b2.size, b2.block⟩ (unhide B1).size))
             have r1 := unhide RC W2 (unhide B2)
             clear b2))
        all_goals
          obtain ⟨P, hP, hP2⟩ := unhide EC _ (unhide B2)
          have P1 := hide hP
          have P2 := hide hP2
          clear hP hP2
          go_wp2_with (go_at_call 82; refine (unhide P1).mono ?_; intro e W3 hp3; obtain ⟨rfl, v1, W4, v2, v3⟩ := unhide P2 e W3 hp3; have V3 := hide v3; clear v3 hp3)
          go_ret
          exact unhide V3
set_option maxRecDepth 20000 in
set_option maxHeartbeats 40000000 in
/-- Of a file that is not there. -/
theorem dwrite_new (h : DiskAt base w d M room N fs) (hbs : base ≤ w.heap.size) (s : ByteArray) (hs : s.size ≤ maxLen) (hnm : nameOk s = true) (hg : getS s.data.toList fs = none) (z : Int) (hz64 : z ≤ 9223372036854775807) (xp : Option Addr) (xn xc : Nat) (o : List Nat) (ho : o.length = xn) (hxc : xn ≤ xc) (hB : BytesAt w xp o) (hx0 : xp = none → xc = 0) (hxl : xn ≤ 140737488355328) :
    Calls Tryz.prog 28 #[.pointer (some ⟨d, 0, none⟩), .string s, .int .i64 z, .slice xp xn xc] w (DEnd base d M room (N + 1) w fs (dWrite room s.data.toList z o (sps fs))) := by
  have hgs : getS s.data.toList (sps fs) = none := by rw [sps_get, hg]; rfl
  have hsl : (sps fs).length = fs.length := by simp [sps]
  have hd : dWrite room s.data.toList z o (sps fs) = if z < 0 ∨ z > 0 then (2, sps fs) else if 16 ≤ fs.length ∨ (xn : Int) > 262144 - z then (6, sps fs) else if (usedS (sps fs) : Int) + max (z + xn - 0) 0 > room then (9, sps fs) else (0, putF s.data.toList (wrote sp0 z.toNat o) (sps fs)) := by
    unfold dWrite
    rw [← nameOk_list, hgs, hnm, if_neg (by simp)]
    simp only [Option.getD_none, Option.isNone_none, true_and, hsl, ho]
    rfl
  rw [hd]
  have EB := hide (fun w' (hb : Below w.heap.size w w') (k : Nat) => DEnd.below (w := w) (r := (k, sps fs)) (e := .returned (.int .i64 (k : Int))) (h.mono (Nat.le_succ N)) rfl rfl hb)
  have AB := hide (show ∀ W, Below w.heap.size w W → Below w.heap.size w (W.alloc (.cells #[.slice none 0 0, .slice none 0 0, .bool false, .slice none 0 0] 126)) from fun W hb => hb.alloc hb.size _)
  have LK := hide (fun W (hb : Below w.heap.size w W) => show W.cell? ⟨d, 1, none⟩ = some (.map (some M)) ∧ (Instr.lookup 103 (.map (some M)) (.string s) true).run Tryz.prog W = .ok (.tuple #[.pointer none, .bool false]) W ∧ (W.alloc (.cells #[.slice none 0 0, .slice none 0 0, .bool false, .slice none 0 0] 126)).cell? ⟨d, 1, none⟩ = some (.map (some M)) ∧ (W.alloc (.cells #[.slice none 0 0, .slice none 0 0, .bool false, .slice none 0 0] 126)).cell? ⟨d, 0, none⟩ = some (.int .i64 (room : Int)) ∧ (∀ ty, (Builtin.len_ #[103] ty #[.map (some M)]).run Tryz.prog (W.alloc (.cells #[.slice none 0 0, .slice none 0 0, .bool false, .slice none 0 0] 126)) = .ok (.int .i64 (fs.length : Int)) (W.alloc (.cells #[.slice none 0 0, .slice none 0 0, .bool false, .slice none 0 0] 126))) from
    ⟨(h.later hb).c1, (h.later hb).map.look_no s hs (by rw [ptrs, List.map_map]; exact getS_none.1 hg), (h.later (unhide AB W hb)).c1, (h.later (unhide AB W hb)).c0, fun ty => by
      have := (h.later (unhide AB W hb)).map.len ty
      rw [ptrs, List.length_map] at this
      exact this⟩)
  have hf16 := h.few
  by_cases hA : z < 0 ∨ z > 0
  · rw [if_pos hA]
    clear h hbs hg hgs hB hd hsl
    by_cases hz0 : z < 0
    · clear hA
      go_enter Tryz.func28, Tryz.ntmps28
      go_wp2_with (go_at_call 81; refine (isName_calls s _).mono ?_; rintro e W ⟨rfl, b1⟩; obtain ⟨q1, q2, q3, q4, q5⟩ := unhide LK W b1; have E2 := hide (unhide EB _ (unhide AB W b1) 2); clear b1)
      go_ret
      exact unhide E2
    · have hz1 : 0 < z := by omega
      clear hA
      go_enter Tryz.func28, Tryz.ntmps28
      go_wp2_with (go_at_call 81; refine (isName_calls s _).mono ?_; rintro e W ⟨rfl, b1⟩; obtain ⟨q1, q2, q3, q4, q5⟩ := unhide LK W b1; have E2 := hide (unhide EB _ (unhide AB W b1) 2); clear b1)
      go_ret
      exact unhide E2
  · rw [if_neg hA]
    obtain rfl : z = 0 := by omega
    by_cases hC : 16 ≤ fs.length ∨ (xn : Int) > 262144 - 0
    · rw [if_pos hC]
      by_cases hC1 : 16 ≤ fs.length
      · have hC2 : (16 : Int) ≤ (fs.length : Int) := by omega
        clear h hbs hg hgs hB hd hA hC hsl hC1
        go_enter Tryz.func28, Tryz.ntmps28
        go_wp2_with (go_at_call 81; refine (isName_calls s _).mono ?_; rintro e W ⟨rfl, b1⟩; obtain ⟨q1, q2, q3, q4, q5⟩ := unhide LK W b1; have E2 := hide (unhide EB _ (unhide AB W b1) 6); clear b1)
        go_ret
        exact unhide E2
      · have hC2 : ¬ (16 : Int) ≤ (fs.length : Int) := by omega
        have hC3 : (262144 : Int) < (xn : Int) := by omega
        clear h hbs hg hgs hB hd hA hC hsl hC1
        go_enter Tryz.func28, Tryz.ntmps28
        go_wp2_with (go_at_call 81; refine (isName_calls s _).mono ?_; rintro e W ⟨rfl, b1⟩; obtain ⟨q1, q2, q3, q4, q5⟩ := unhide LK W b1; have E2 := hide (unhide EB _ (unhide AB W b1) 6); clear b1)
        go_ret
        exact unhide E2
    · rw [if_neg hC]
      have hC2 : ¬ (16 : Int) ≤ (fs.length : Int) := by omega
      have hC3 : ¬ (262144 : Int) < (xn : Int) := by omega
      have hw1 : IntKind.i64.wrap (xn : Int) = (xn : Int) := by rw [IntKind.wrap_i64]; omega
      have hG : max (xn : Int) 0 = (xn : Int) := by omega
      rw [show max ((0 : Int) + (xn : Int) - 0) 0 = (xn : Int) by omega]
      have hul : usedS (sps fs) ≤ 4194304 := by rw [h.usedS]; exact h.used_le
      have UC := hide (fun W (hb : Below w.heap.size w W) => dused_calls (h.later hb).drew)
      have RC := hide (fun W (hb : Below w.heap.size w W) => (h.later hb).c0)
      have hw4 : IntKind.i64.wrap ((usedS (sps fs) : Int) + (xn : Int)) = (usedS (sps fs) : Int) + (xn : Int) := by rw [IntKind.wrap_i64]; omega
      by_cases hD : (usedS (sps fs) : Int) + (xn : Int) > (room : Int)
      · rw [if_pos hD]
        have hD2 : (room : Int) < (usedS (sps fs) : Int) + (xn : Int) := hD
        clear h hbs hg hgs hB hd hA hC hD hsl
        generalize usedS (sps fs) = u at *
        go_enter Tryz.func28, Tryz.ntmps28
        go_wp2_with (go_at_call 81; refine (isName_calls s _).mono ?_; rintro e W ⟨rfl, b1⟩; obtain ⟨q1, q2, q3, q4, q5⟩ := unhide LK W b1; have B1 := hide (unhide AB W b1); clear b1)
        generalize W.alloc (.cells #[.slice none 0 0, .slice none 0 0, .bool false, .slice none 0 0] 126) = WA at *
        go_region_held3 (fun w' => w'.cell? ⟨d, 0, none⟩ = some (.int .i64 (room : Int))) (first | go_keep | exact q4 | exact r1) (first
          | (go_at_call 35
             refine (unhide UC WA (unhide B1)).mono ?_
             rintro e W2 ⟨rfl, b2⟩
             have B2 := hide (show Below w.heap.size w W2 from (unhide B1).trans (Below.mono ⟨b2.os, b2.tape, b2.output, b2.size, b2.block⟩ (unhide B1).size))
             have r1 := unhide RC W2 (unhide B2)
             have E2 := hide (unhide EB W2 (unhide B2) 9)
             clear b2))
        all_goals
          go_wp2
          go_ret
          exact unhide E2
      · rw [if_neg hD]
        have hD2 : ¬ ((room : Int) < (usedS (sps fs) : Int) + (xn : Int)) := hD
        have EC := hide (show ∀ W, Below w.heap.size w W → ∀ W2, Below (W.alloc (.cells #[.slice none 0 0, .slice none 0 0, .bool false, .slice none 0 0] 126)).heap.size (W.alloc (.cells #[.slice none 0 0, .slice none 0 0, .bool false, .slice none 0 0] 126)) W2 → ∃ P : Ending → World → Prop, Calls Tryz.prog 82 #[.pointer (some ⟨W.heap.size, 0, none⟩), .int .i64 0, .slice xp xn xc] W2 P ∧ ∀ e W3, P e W3 → e = .returned (.tuple #[]) ∧ W3.cell? ⟨d, 1, none⟩ = some (.map (some M)) ∧ ∃ W4, (Instr.mapUpdate 103 (.map (some M)) (.string s) (.pointer (some ⟨W.heap.size, 0, none⟩))).run Tryz.prog W3 = .ok () W4 ∧ DEnd base d M room (N + 1) w fs (0, putF s.data.toList (wrote sp0 0 o) (sps fs)) (.returned (.int .i64 0)) W4 from fun W bW W2 bW2 => by
          have hfz := (FileAt.zero (base := base) W (Nat.le_trans hbs bW.size)).later bW2
          have bA := unhide AB W bW
          have b2 : Below w.heap.size w W2 := bA.trans (bW2.mono bA.size)
          have hb1 : base ≤ W2.heap.size := Nat.le_trans hbs b2.size
          have hFl : w.heap.size ≤ W.heap.size := bW.size
          have hfin : ∀ W3 f', FileAt base W3 W.heap.size f' → FGrew W.heap.size W2 fil0 W3 f' → FOk (N + 1) f' → f'.sp = wrote sp0 0 o → W3.cell? ⟨d, 1, none⟩ = some (.map (some M)) ∧ ∃ W4, (Instr.mapUpdate 103 (.map (some M)) (.string s) (.pointer (some ⟨W.heap.size, 0, none⟩))).run Tryz.prog W3 = .ok () W4 ∧ DEnd base d M room (N + 1) w fs (0, putF s.data.toList (wrote sp0 0 o) (sps fs)) (.returned (.int .i64 0)) W4 := by
            intro W3 f' hf hgw hok hsp
            have hs3 : ∀ g, g < w.heap.size → W3.heap[g]? = w.heap[g]? := fun g hlt => (hgw.block g (Nat.lt_of_lt_of_le hlt b2.size) (fun hm => by rw [fil0_mut] at hm; omega)).trans (b2.block g hlt)
            have h3 := (h.mono (Nat.le_succ N)).still hs3
            have b3 : Below w.heap.size w W3 := ⟨hgw.os.trans b2.os, hgw.tape.trans b2.tape, hgw.output.trans b2.output, Nat.le_trans b2.size hgw.size, hs3⟩
            obtain ⟨W4, hu, hm4, hg4, _⟩ := h3.map.store (h3.rise.map (fun x : Nat × Fil => x.1)) s hs W.heap.size (by rw [ptrs, List.length_map]; omega)
            obtain ⟨k3, k4⟩ := h3.add (w0 := w) (w' := W4) s.data.toList (by
              have := hnm
              simp only [nameOk, Bool.and_eq_true, decide_eq_true_eq] at this
              rw [Array.length_toList]; exact this.2.1) hg W.heap.size f' hf hok (by omega) (fun g hgm => by
              rcases hgw.muts g hgm with h1 | h1
              · rw [fil0_mut] at h1; omega
              · have := b2.size; omega) (fun g hgm => by
              rcases hgw.reds g hgm with h1 | h1
              · exact absurd h1 (fil0_red g)
              · have := b2.size; omega) (fun g hgm => hgm.elim (fun hh => (h.mut_lt hh).2) (fun hh => (h.red_lt hh).2)) b3 hg4 hm4
            refine ⟨h3.c1, W4, hu, rfl, _, k3, k4, ?_⟩
            rw [sps_put, hsp]
          by_cases h0 : xn = 0
          · subst h0
            have ho0 : o = [] := List.eq_nil_of_length_eq_zero ho
            refine ⟨_, write_none base W2 W.heap.size fil0 hfz 0 (by simp) xp xc hx0 (by simp [fil0]) hb1, ?_⟩
            rintro e W3 ⟨rfl, bp, bc, hf, hgw⟩
            refine ⟨rfl, hfin W3 _ hf hgw ((FOk.zero (N + 1)).over0 0 bp bc) ?_⟩
            simp [wrote, ho0, Fil.over, Fil.sp, fil0, sp0]
          · have hp : 0 < xn := Nat.pos_of_ne_zero h0
            refine ⟨_, write_some base W2 W.heap.size fil0 hfz 0 (by simp) xp xn xc o ho hp hxc (hB.later b2) hx0 (fun b off e hmu => by
              rw [fil0_mut] at hmu
              obtain ⟨b', off', e1, e2⟩ := hB.cell 0 (by omega)
              rw [e1] at e
              have hbb : b' = b := by simpa using congrArg (fun x => x.map Addr.block) e
              have := World.block_lt_of_cell? _ _ e2
              simp only at this
              omega) (by simp [fil0]; omega) (by simp [fil0]) hb1, ?_⟩
            rintro e W3 ⟨rfl, bp, bc, cp, cc, dp, hf, hgw⟩
            refine ⟨rfl, hfin W3 _ hf hgw ((FOk.zero N).write 0 (by simp) o (by omega) (by omega) bp bc cp cc (dp, xn)) ?_⟩
            simp only [wrote]
            rw [if_neg (by omega)]
            simp [Fil.sp, Fil.more, Fil.over, fil0, sp0])
        clear h hbs hg hgs hB hd hA hC hD hsl
        generalize usedS (sps fs) = u at *
        go_enter Tryz.func28, Tryz.ntmps28
        go_wp2_with (go_at_call 81; refine (isName_calls s _).mono ?_; rintro e W ⟨rfl, b1⟩; obtain ⟨q1, q2, q3, q4, q5⟩ := unhide LK W b1; have B1 := hide (unhide AB W b1); have E3 := hide (unhide EC W b1); clear b1)
        generalize W.alloc (.cells #[.slice none 0 0, .slice none 0 0, .bool false, .slice none 0 0] 126) = WA at *
        generalize W.heap.size = F at *
        go_region_held3 (fun w' => w'.cell? ⟨d, 0, none⟩ = some (.int .i64 (room : Int))) (first | go_keep | exact q4 | exact r1) (first
          | (go_at_call 35
             refine (unhide UC WA (unhide B1)).mono ?_
             rintro e W2 ⟨rfl, b2⟩
             have B3 := hide (show Below WA.heap.size WA W2 from ⟨b2.os, b2.tape, b2.output, b2.size, b2.block⟩)
             have r1 := unhide RC W2 ((unhide B1).trans ((unhide B3).mono (unhide B1).size))
             clear b2))
        all_goals
          obtain ⟨P, hP, hP2⟩ := unhide E3 _ (unhide B3)
          have P1 := hide hP
          have P2 := hide hP2
          clear hP hP2
          go_wp2_with (go_at_call 82; refine (unhide P1).mono ?_; intro e W3 hp3; obtain ⟨rfl, v1, W4, v2, v3⟩ := unhide P2 e W3 hp3; have V3 := hide v3; clear v3 hp3)
          go_ret
          exact unhide V3
/-- Write, whatever it is handed. -/
theorem dwrite_calls (h : DiskAt base w d M room N fs) (hbs : base ≤ w.heap.size) (hN : N ≤ 1000000) (s : ByteArray) (hs : s.size ≤ maxLen) (z : Int) (hz64 : z ≤ 9223372036854775807) (xp : Option Addr) (xn xc : Nat) (o : List Nat) (ho : o.length = xn) (hxc : xn ≤ xc) (hB : BytesAt w xp o) (hx0 : xp = none → xc = 0) (hne : ∀ b off, xp = some ⟨b, off, none⟩ → 0 < xn → ¬ DMut d M fs b) (hxl : xn ≤ 140737488355328) :
    Calls Tryz.prog 28 #[.pointer (some ⟨d, 0, none⟩), .string s, .int .i64 z, .slice xp xn xc] w (DEnd base d M room (N + 1) w fs (dWrite room s.data.toList z o (sps fs))) := by
  cases hnm : nameOk s with
  | false => exact dwrite_bad h s z xp xn xc o hnm
  | true =>
    cases hg : getS s.data.toList fs with
    | none => exact dwrite_new h hbs s hs hnm hg z hz64 xp xn xc o ho hxc hB hx0 hxl
    | some x => exact dwrite_old h hbs hN s hs hnm x.1 x.2 hg z hz64 xp xn xc o ho hxc hB hx0 hne hxl
end
end Go.Proofs.YtagncghpfdjkmaaGreatDoor
end
/- A slice of bytes that came in, as a list of numbers. -/
section
namespace Go.Proofs.YtagncghpfdjkmaaGreatDoor
open Go.ChangeShapes Go.WideShapes Go.ChangeAt Go.RowKit

/-- What is told of a slice of integers that came in: it is nil, or it leads to a row of 'cap' cells that hold 'zs'. -/
def IsRow (k : IntKind) (w : World) (a : Option Addr) (len cap : Nat) (zs : List Int) : Prop :=
  (a = none ∧ len = 0 ∧ cap = 0 ∧ zs = []) ∨
  ∃ x, a = some x ∧ len ≤ cap ∧ cap ≤ maxLen ∧ zs.length = cap ∧ (∀ i, i < zs.length → w.cell? (x.add i) = some (.int k (zs.getD i 0))) ∧ ∀ n ∈ zs, (Lit.int k n).wf = true

theorem isRow_bytes {w : World} {a : Option Addr} {len cap : Nat} {zs : List Int} (h : IsRow .u8 w a len cap zs) : ∃ l : List Nat, l.length = len ∧ len ≤ cap ∧ cap ≤ maxLen ∧ cap = zs.length ∧ BytesAt w a l := by
  rcases h with ⟨rfl, rfl, rfl, rfl⟩ | ⟨x, rfl, hl, hm, hz, hcell, hwz⟩
  · exact ⟨[], rfl, Nat.le_refl _, by simp [maxLen], rfl, ⟨by simp, by simp⟩⟩
  · have hbd : ∀ n ∈ zs, 0 ≤ n ∧ n ≤ 255 := fun n hn => bounds_u8 (hwz n hn)
    refine ⟨(zs.take len).map Int.toNat, by simp; omega, hl, hm, hz.symm, ⟨?_, ?_⟩⟩
    · intro c hc
      obtain ⟨n, hn, rfl⟩ := List.mem_map.1 hc
      have := hbd n (List.mem_of_mem_take hn)
      omega
    · intro i hi
      simp only [List.length_map, List.length_take] at hi
      have hiz : i < zs.length := by omega
      have hc := hcell i hiz
      obtain ⟨b, off, spot⟩ := x
      have hspot : spot = none := by simpa [Addr.add] using World.cell?_spot (hcell 0 (by omega))
      subst hspot
      refine ⟨b, off, rfl, ?_⟩
      rw [Addr.add_lit] at hc
      rw [hc]
      have e1 : zs.getD i 0 = zs[i] := by rw [List.getD_eq_getElem?_getD, List.getElem?_eq_getElem hiz]; rfl
      have e2 : ((zs.take len).map Int.toNat).getD i 0 = (zs[i]).toNat := by
        rw [List.getD_eq_getElem?_getD, List.getElem?_map, List.getElem?_take, if_pos (by omega), List.getElem?_eq_getElem hiz]; rfl
      have := hbd zs[i] (List.getElem_mem hiz)
      rw [e1, e2, Int.toNat_of_nonneg this.1]

/-- The bytes of an argument, and how much its reading holds. -/
theorem row8 {H : Type} {enc : TypeId × Value → H} {W : World} {a : Option Addr} {len cap : Nat} {d : DataW H} {p : List MemPlace}
    (h : DataW.Trod enc Tryz.prog W 0 (fun _ => true) true 27 (.slice a len cap) d p) :
    ∃ l : List Nat, l.length = len ∧ len ≤ cap ∧ cap ≤ maxLen ∧ BytesAt W a l ∧ (a = none → cap = 0) ∧ ((d = .nil ∧ cap = 0) ∨ ∃ es sp, d = .slice es sp ∧ es.length + sp.length = cap) := by
  obtain ⟨fuel, hf⟩ := h
  rcases open_ints Tryz.underlying27 Tryz.underlying5 (by kernel_rfl) hf with ⟨hcs, hx⟩ | ⟨x, l, c, zs, hcs, _, hl, hm, hz, hx, hcell, hwz⟩
  · simp [Value.cells] at hcs
    obtain ⟨rfl, rfl, rfl⟩ := hcs
    obtain ⟨k, h1, h2, h3, h4, h5⟩ := isRow_bytes (w := W) (a := none) (len := 0) (cap := 0) (zs := []) (.inl ⟨rfl, rfl, rfl, rfl⟩)
    exact ⟨k, h1, h2, h3, h5, (fun _ => rfl), .inl ⟨(Prod.mk.inj hx).1, rfl⟩⟩
  · simp [Value.cells] at hcs
    obtain ⟨rfl, rfl, rfl⟩ := hcs
    have hz' : zs.length = cap := by simpa using hz
    obtain ⟨k, h1, h2, h3, h4, h5⟩ := isRow_bytes (w := W) (a := some x) (len := len) (cap := cap) (zs := zs) (.inr ⟨_, rfl, hl, hm, hz', hcell, hwz⟩)
    exact ⟨k, h1, h2, h3, h5, (fun h => by cases h), .inr ⟨_, _, (Prod.mk.inj hx).1, by simp [lits]; omega⟩⟩
theorem i64_bounds {n : Int} (h : (Lit.int .i64 n).wf = true) : -9223372036854775808 ≤ n ∧ n ≤ 9223372036854775807 := bounds_i64 h
end Go.Proofs.YtagncghpfdjkmaaGreatDoor
end
