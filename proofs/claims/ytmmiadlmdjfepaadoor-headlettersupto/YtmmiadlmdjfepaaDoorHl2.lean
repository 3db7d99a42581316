/- Heads: some letters of a text as large ones (tollgatelaw09.large). -/
import Derived.Test.YtmmiadlmdjfepaaDoorHl1
import Derived.Test.YtmmiadlmdjfepaaDoorHdt
import Derived.Test.YtmmiadlmdjfepaaDoorHr2
namespace Go.Proofs.YtmmiadlmdjfepaaDoor
open Go.ChangeShapes Go.WideShapes Go.ChangeAt Go.RowKit
set_option linter.unusedVariables false

theorem OwnZ.free {base : Nat} {w : World} {g c : Nat} {l : List Nat} (h : OwnZ base w g c l) (i : Nat) (hi : i < c) : w.frozen? ⟨g, i, none⟩ = false := by
  obtain ⟨cur, fz, hg, hf, hc, _⟩ := h.row
  obtain ⟨lo, top⟩ := fz
  simp only [World.frozen?, hg, Bool.and_eq_false_iff, decide_eq_false_iff_not]
  rcases hf with hf | hf
  · right; simp only at hf; omega
  · left; simp only at hf; omega
theorem OwnZ.cell {base : Nat} {w : World} {g c : Nat} {l : List Nat} (h : OwnZ base w g c l) (i : Nat) (hi : i < l.length) : w.cell? ⟨g, i, none⟩ = some (.int .u8 ((l[i] : Nat) : Int)) := by
  obtain ⟨b, off, e, hc⟩ := h.bytes.cell i hi
  cases e
  rw [Nat.zero_add] at hc
  rw [hc, List.getD_eq_getElem?_getD, List.getElem?_eq_getElem hi]
  rfl
theorem OwnZ.set {base : Nat} {w : World} {g c : Nat} {l : List Nat} (h : OwnZ base w g c l) (i y : Nat) (hi : i < l.length) (hy : y < 256) : OwnZ base (w.setCell ⟨g, i, none⟩ (.int .u8 (y : Int))) g c (l.set i y) := by
  obtain ⟨cur, fz, hg, hf, hc, ht⟩ := h.row
  refine ⟨fun x hx => ?_, h.ge, ⟨cur.setIfInBounds i (.int .u8 (y : Int)), fz, ?_, by rw [Array.size_setIfInBounds]; exact hf, by rw [Array.size_setIfInBounds]; exact hc, ?_⟩, by rw [List.length_set]; exact h.le, h.mx⟩
  · rcases List.mem_or_eq_of_mem_set hx with hx | hx
    · exact h.lt x hx
    · omega
  · rw [setCell_eq_setRow w g i cur _ fz _ hg]
    exact setRow_heap w g cur _ _ _ hg
  · rw [List.length_set, Array.toList_setIfInBounds, List.take_set, ht, List.map_set]
    rfl
/-- The first j letters are done. -/
structure LgJ (s t : Tx) (j : Nat) : Prop where
  len : t.length = s.length
  done : Lrg (s.take j) (t.take j)
  rest : t.drop j = s.drop j
theorem lgj0 (s : Tx) : LgJ s s 0 := ⟨rfl, .nil, rfl⟩
theorem LgJ.same {s t : Tx} {j : Nat} (h : LgJ s t j) (hj : j < s.length) : ∃ hj2 : j < t.length, t[j] = s[j] ∧ LgJ s t (j + 1) := by
  have hj2 : j < t.length := by rw [h.len]; exact hj
  have e : t[j] = s[j] := by
    have h1 := h.rest
    rw [List.drop_eq_getElem_cons hj2, List.drop_eq_getElem_cons hj] at h1
    exact (List.cons.inj h1).1
  have e2 : t.drop (j + 1) = s.drop (j + 1) := by
    have h1 := h.rest
    rw [List.drop_eq_getElem_cons hj2, List.drop_eq_getElem_cons hj] at h1
    exact (List.cons.inj h1).2
  refine ⟨hj2, e, h.len, ?_, e2⟩
  rw [List.take_add_one, List.take_add_one, List.getElem?_eq_getElem hj, List.getElem?_eq_getElem hj2, Option.toList_some, Option.toList_some]
  exact h.done.snoc (.inl e)
theorem LgJ.big {s t : Tx} {j : Nat} (h : LgJ s t j) (hj : j < s.length) (d : UInt8) (hb : Big s[j] d) : LgJ s (t.set j d) (j + 1) := by
  obtain ⟨hj2, e, h1⟩ := h.same hj
  refine ⟨by rw [List.length_set]; exact h.len, ?_, ?_⟩
  · have e3 : (t.set j d).take (j + 1) = t.take j ++ [d] := by
      rw [List.take_add_one, List.getElem?_set_self hj2, Option.toList_some, List.take_set_of_le (Nat.le_refl _)]
    rw [List.take_add_one, List.getElem?_eq_getElem hj, Option.toList_some, e3]
    exact h.done.snoc hb
  · rw [List.drop_set_of_lt (by omega)]
    exact h1.rest
set_option maxRecDepth 20000 in
set_option maxHeartbeats 4000000 in
theorem large_calls (s : ByteArray) (hs : s.size ≤ 1048576) (seed : Nat) (hseed : seed < 4294967296) (w : World) : Calls Tryd.prog 19 #[.string s, .int .u32 (seed : Int)] w fun e w' => (∃ t, e = .returned (.string (stS t)) ∧ Lrg s.data.toList t) ∧ Below w.heap.size w w' := by
  obtain ⟨c, W0, hcv, hown, hb0⟩ := conv_own w s w.heap.size (Nat.le_refl _) (by omega)
  have hl : s.data.toList.length = s.size := by simp
  have O0 := hide (show OwnZ w.heap.size W0 w.heap.size c (numsT s.data.toList) from hown)
  have B0 := hide hb0
  clear hown hb0
  go_enter Tryd.func19, Tryd.ntmps19
  go_wp2
  go_loopw [6] (fun i wr => ∃ (j : Nat) (t : Tx), j ≤ s.size ∧ i = .int .i64 (j : Int) ∧ Hid (LgJ s.data.toList t j) ∧ Hid (OwnZ w.heap.size wr w.heap.size c (numsT t)) ∧ Hid (Below w.heap.size w wr)) (fun i _ => s.size - (intOf i).toNat)
  case atStart => exact ⟨0, s.data.toList, by omega, rfl, hide (lgj0 _), O0, B0⟩
  case round =>
    obtain ⟨j, t, hj, rfl, J, O, B⟩ := hrel
    by_cases h : j < s.size
    · have hjl : j < s.data.toList.length := by omega
      obtain ⟨hj2, ht, J1⟩ := (unhide J).same hjl
      have HJ1 := hide J1
      have JB := hide (fun d hb => (unhide J).big hjl d hb)
      have hnl : (numsT t).length = s.size := by rw [numsT_len, (unhide J).len]; exact hl
      have cx := (unhide O).cell j (by rw [hnl]; exact h)
      have hxe : (numsT t)[j]'(by rw [hnl]; exact h) = (s.data.toList[j]).toNat := by
        unfold numsT
        rw [List.getElem_map, ht]
      rw [hxe] at cx
      have hcc := (unhide O).le
      rw [hnl] at hcc
      have fx := (unhide O).free j (by omega)
      generalize s.data.toList[j] = x at *
      have hxl : x.toNat < 256 := x.toNat_lt
      have hlt : (j : Int) < (s.size : Int) := by omega
      have hlt0 : (0 : Int) ≤ (j : Int) := by omega
      have hw : IntKind.i64.wrap ((j : Int) + 1) = ((j + 1 : Nat) : Int) := by rw [IntKind.wrap_i64]; omega
      clear J1 ht hxe hj2
      by_cases hc1 : 97 ≤ (x.toNat : Int)
      · by_cases hc2 : (x.toNat : Int) ≤ 122
        · have hy : ((x.toNat : Int) - 32) = ((x.toNat - 32 : Nat) : Int) := by omega
          have hd : (UInt8.ofNat (x.toNat - 32)).toNat = x.toNat - 32 := by rw [UInt8.toNat_ofNat']; exact Nat.mod_eq_of_lt (by omega)
          have J2 := hide (unhide JB (UInt8.ofNat (x.toNat - 32)) (.inr ⟨by omega, by omega, hd⟩))
          have O2 := hide (show OwnZ w.heap.size (wr.setCell ⟨w.heap.size, j, none⟩ (.int .u8 ((x.toNat : Int) - 32))) w.heap.size c (numsT (t.set j (UInt8.ofNat (x.toNat - 32)))) by
            have h1 := (unhide O).set j (x.toNat - 32) (by rw [hnl]; exact h) (by omega)
            rw [hy]
            have e : numsT (t.set j (UInt8.ofNat (x.toNat - 32))) = (numsT t).set j (x.toNat - 32) := by unfold numsT; rw [List.map_set, hd]
            rw [e]
            exact h1)
          have B2 := hide ((unhide B).setCell (p := ⟨w.heap.size, j, none⟩) (Nat.le_refl _) (.int .u8 ((x.toNat : Int) - 32)))
          clear hy hd JB hnl
          go_wp2
          · exact ⟨⟨j + 1, t.set j (UInt8.ofNat (x.toNat - 32)), by omega, by first | rfl | (rw [hw]), J2, O2, B2⟩, by simp [intOf]; omega⟩
          · exact ⟨⟨j + 1, t, by omega, by first | rfl | (rw [hw]), HJ1, O, B⟩, by simp [intOf]; omega⟩
        · go_wp2
          go_roundw
          case rel => exact ⟨j + 1, t, by omega, by first | rfl | (rw [hw]), HJ1, O, B⟩
          case measure => simp [intOf]; omega
      · go_wp2
        go_roundw
        case rel => exact ⟨j + 1, t, by omega, by first | rfl | (rw [hw]), HJ1, O, B⟩
        case measure => simp [intOf]; omega
    · obtain rfl : j = s.size := by omega
      have hlt : ¬ (s.size : Int) < (s.size : Int) := by omega
      have hnl : (numsT t).length = s.size := by rw [numsT_len, (unhide J).len]; exact hl
      have hst := run_string8 (w := wr) s.size c hnl (unhide O).bytes
      rw [strOf_tx, numsT_tx] at hst
      have HR := hide (show Lrg s.data.toList t by
        have := (unhide J).done
        rwa [List.take_of_length_le (by omega), List.take_of_length_le (by rw [(unhide J).len]; omega)] at this)
      go_wp2
      go_ret
      exact ⟨⟨t, rfl, unhide HR⟩, unhide B⟩
end Go.Proofs.YtmmiadlmdjfepaaDoor
