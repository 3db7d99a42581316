/- Flight, the document's answer: Heal, Parted, Part. -/
import Derived.Test.YticemhnfcelpmaaRf4
namespace Go.Proofs.Yticemhnfcelpmaa
open Go.ChangeShapes Go.WideShapes Go.ChangeAt Go.RowKit

theorem isL_nat {f t : Int} (h : isL f t = true) : ∃ a b : Nat, f = (a : Int) ∧ t = (b : Int) ∧ 1 ≤ a ∧ a ≤ 9 ∧ 1 ≤ b ∧ b ≤ 9 ∧ a ≠ b := by
  simp only [isL, isN, Bool.and_eq_true, decide_eq_true_eq, Bool.not_eq_true', decide_eq_false_iff_not] at h
  exact ⟨f.toNat, t.toNat, by omega, by omega, by omega, by omega, by omega, by omega, by omega⟩
section
variable {base : Nat} {w : World} {R : Nat} {sp : Option Addr} {c : Nat} {zs : List SPk} {pa : List Bool} {ck : List Int}
theorem refHeal_no (f t : Int) (hL : isL f t = false) : Calls Try.prog 35 #[.pointer (some ⟨R, 0, none⟩), .int .i64 f, .int .i64 t] w fun e w' => e = .returned (.int .i64 2) ∧ w' = w := by
  go_enter Try.func35, Try.ntmps35
  go_wp2_with fail
  refine (refLink_calls f t _).mono ?_
  rintro e W1 ⟨rfl, rfl⟩
  rw [hL]
  go_wp2
  go_ret
  exact ⟨rfl, rfl⟩
theorem refParted_no (f t : Int) (hL : isL f t = false) : Calls Try.prog 43 #[.pointer (some ⟨R, 0, none⟩), .int .i64 f, .int .i64 t] w fun e w' => e = .returned (.bool false) ∧ w' = w := by
  go_enter Try.func43, Try.ntmps43
  go_wp2_with fail
  refine (refLink_calls f t _).mono ?_
  rintro e W1 ⟨rfl, rfl⟩
  rw [hL]
  go_wp2
  go_ret
  exact ⟨rfl, rfl⟩
theorem refParted_yes (h : RefAt base w R sp c zs pa ck) (a b : Nat) (ha : 1 ≤ a ∧ a ≤ 9) (hb : 1 ≤ b ∧ b ≤ 9) (hL : isL (a : Int) (b : Int) = true) : Calls Try.prog 43 #[.pointer (some ⟨R, 0, none⟩), .int .i64 (a : Int), .int .i64 (b : Int)] w fun e w' => e = .returned (.bool (pa.getD (10 * a + b) false)) ∧ w' = w := by
  have cj := h.cp (10 * a + b) (by omega)
  have h0 : (0 : Int) ≤ 10 * (a : Int) + (b : Int) := by omega
  have h1 : 10 * (a : Int) + (b : Int) < 100 := by omega
  have hw : IntKind.i64.wrap (10 * (a : Int)) = 10 * (a : Int) := by rw [IntKind.wrap_i64]; omega
  have hw2 : IntKind.i64.wrap (10 * (a : Int) + (b : Int)) = 10 * (a : Int) + (b : Int) := by rw [IntKind.wrap_i64]; omega
  have hn : (10 * (a : Int) + (b : Int)).toNat = 10 * a + b := by omega
  clear h
  go_enter Try.func43, Try.ntmps43
  go_wp2_with fail
  refine (refLink_calls _ _ _).mono ?_
  rintro e W1 ⟨rfl, rfl⟩
  rw [hL]
  go_wp2
  go_ret
  exact ⟨rfl, rfl⟩
set_option maxHeartbeats 1000000 in
theorem refHeal_yes (h : RefAt base w R sp c zs pa ck) (a b : Nat) (ha : 1 ≤ a ∧ a ≤ 9) (hb : 1 ≤ b ∧ b ≤ 9) (hL : isL (a : Int) (b : Int) = true) : Calls Try.prog 35 #[.pointer (some ⟨R, 0, none⟩), .int .i64 (a : Int), .int .i64 (b : Int)] w fun e w' => e = .returned (.int .i64 0) ∧ RefAt base w' R sp c zs (pa.set (10 * a + b) false) ck ∧ RGrew R w sp w' sp := by
  have cj := h.cp (10 * a + b) (by omega)
  have fj := h.fz (1 + (10 * a + b))
  have h0 : (0 : Int) ≤ 10 * (a : Int) + (b : Int) := by omega
  have h1 : 10 * (a : Int) + (b : Int) < 100 := by omega
  have hn : (10 * (a : Int) + (b : Int)).toNat = 10 * a + b := by omega
  have H1 := hide (h.setPa (10 * a + b) (by omega) false)
  have G := hide (RGrew.ofR (sp := sp) (grown_set w R (1 + (10 * a + b)) (.bool false)))
  clear h
  go_enter Try.func35, Try.ntmps35
  go_wp2_with fail
  refine (refLink_calls _ _ _).mono ?_
  rintro e W1 ⟨rfl, rfl⟩
  rw [hL]
  go_wp2_with fail
  first | go_region | skip
  go_wp2
  go_ret
  first | exact ⟨rfl, unhide H1, unhide G⟩ | exact ⟨rfl, (unhide H1).drew, (unhide G).drew⟩
theorem refPart_no (f t : Int) (hL : isL f t = false) : Calls Try.prog 33 #[.pointer (some ⟨R, 0, none⟩), .int .i64 f, .int .i64 t] w fun e w' => e = .returned (.int .i64 2) ∧ w' = w := by
  go_enter Try.func33, Try.ntmps33
  go_wp2_with fail
  refine (refLink_calls f t _).mono ?_
  rintro e W1 ⟨rfl, rfl⟩
  rw [hL]
  go_wp2
  go_ret
  exact ⟨rfl, rfl⟩
/-- Those of a link are gone. -/
def loseL (f t : Int) (z : SPk) : SPk := if z.1.1.2.1 = f ∧ z.1.1.2.2.1 = t then (z.1, true) else z
def partTo (f t : Int) (zs : List SPk) (j : Nat) : List SPk := (zs.take j).map (loseL f t) ++ zs.drop j
theorem partTo_len (f t : Int) (zs : List SPk) (j : Nat) : (partTo f t zs j).length = zs.length := by
  simp only [partTo, List.length_append, List.length_map, List.length_take, List.length_drop]
  omega
theorem partTo_get (f t : Int) {zs : List SPk} {j : Nat} (hj : j < zs.length) (h : j < (partTo f t zs j).length) : (partTo f t zs j)[j] = zs[j] := by
  have e : (partTo f t zs j)[j]? = some zs[j] := by
    have hl : ((zs.take j).map (loseL f t)).length = j := by simp; omega
    unfold partTo
    rw [List.getElem?_append_right (by omega), hl, Nat.sub_self, List.getElem?_drop, Nat.add_zero, List.getElem?_eq_getElem hj]
  rw [List.getElem?_eq_getElem h] at e
  exact Option.some.inj e
theorem partTo_succ (f t : Int) {zs : List SPk} {j : Nat} (hj : j < zs.length) : partTo f t zs (j + 1) = (partTo f t zs j).set j (loseL f t zs[j]) := by
  have hl : ((zs.take j).map (loseL f t)).length = j := by simp; omega
  unfold partTo
  rw [List.take_succ_eq_append_getElem hj, List.map_append, List.set_append_right _ _ (by omega), hl, Nat.sub_self, List.append_assoc]
  congr 1
  have e : zs.drop j = zs[j] :: zs.drop (j + 1) := List.drop_eq_getElem_cons hj
  rw [e]
  rfl
set_option maxRecDepth 20000 in
set_option maxHeartbeats 4000000 in
theorem refPart_yes (h : RefAt base w R sp c zs pa ck) (hz : zs.length ≤ 1000) (a b : Nat) (ha : 1 ≤ a ∧ a ≤ 9) (hb : 1 ≤ b ∧ b ≤ 9) (hL : isL (a : Int) (b : Int) = true) : Calls Try.prog 33 #[.pointer (some ⟨R, 0, none⟩), .int .i64 (a : Int), .int .i64 (b : Int)] w fun e w' => e = .returned (.int .i64 0) ∧ RefAt base w' R sp c (zs.map (loseL a b)) (pa.set (10 * a + b) true) ck ∧ RGrew R w sp w' sp := by
  have cj := h.cp (10 * a + b) (by omega)
  have fj := h.fz (1 + (10 * a + b))
  have h0 : (0 : Int) ≤ 10 * (a : Int) + (b : Int) := by omega
  have h1 : 10 * (a : Int) + (b : Int) < 100 := by omega
  have hn : (10 * (a : Int) + (b : Int)).toNat = 10 * a + b := by omega
  have H1 := hide (h.setPa (10 * a + b) (by omega) true)
  have G1 := hide (RGrew.ofR (sp := sp) (grown_set w R (1 + (10 * a + b)) (.bool true)))
  clear h
  go_enter Try.func33, Try.ntmps33
  go_wp2_with fail
  refine (refLink_calls _ _ _).mono ?_
  rintro e W1 ⟨rfl, rfl⟩
  rw [hL]
  go_wp2_with fail
  generalize W1.setCell ⟨R, 1 + (10 * a + b), none⟩ (.bool true) = W2 at *
  clear cj fj
  go_loopw [7] (fun i wr => ∃ j : Nat, j ≤ zs.length ∧ i = .int .i64 (j : Int) ∧ Hid (RefAt base wr R sp c (partTo a b zs j) (pa.set (10 * a + b) true) ck) ∧ Hid (RGrew R W1 sp wr sp)) (fun i _ => zs.length - (intOf i).toNat)
  case atStart => exact ⟨0, by omega, rfl, by simpa [partTo, Hid] using unhide H1, unhide G1⟩
  case round =>
    obtain ⟨j, hj, rfl, H, G⟩ := hrel
    have c0 := (unhide H).c0
    rw [partTo_len] at c0
    by_cases hjn : j < zs.length
    · have hjl : j < (partTo a b zs j).length := by rw [partTo_len]; exact hjn
      obtain ⟨g, rfl, p0, p1, p2, p3, p4⟩ := (unhide H).own.cell j hjl
      have hgone := hide ((unhide H).gone j hjl g rfl)
      have fg := box_free (show wr.heap[g]? = some (.cells _ 77 (0, 0)) from ((unhide H).own.blk_is g rfl).choose_spec) (j * 5 + 4)
      rw [partTo_get _ _ hjn] at p0 p1 p2 p3 p4
      have hj0 : (0 : Int) ≤ (j : Int) := by omega
      have hj1 : (j : Int) < (zs.length : Int) := by omega
      have hsu := hide (partTo_succ (a : Int) (b : Int) hjn)
      by_cases hf : zs[j].1.1.2.1 = (a : Int)
      · by_cases ht : zs[j].1.1.2.2.1 = (b : Int)
        · have H5 := hide (show RefAt base (wr.setCell ⟨g, j * 5 + 4, none⟩ (.bool true)) R (some ⟨g, 0, none⟩) c (partTo a b zs (j + 1)) (pa.set (10 * a + b) true) ck by
            have h5 := (unhide hgone).1
            rw [partTo_get _ _ hjn] at h5
            rw [unhide hsu, loseL, if_pos ⟨hf, ht⟩]
            exact h5)
          have G5 := hide ((unhide G).trans (unhide hgone).2)
          clear hgone
          rw [hf] at p1
          rw [ht] at p2
          go_wp2
          exact ⟨⟨j + 1, by omega, by go_num, unhide H5, unhide G5⟩, by simp [intOf]; omega⟩
        · have H5 := hide (show RefAt base wr R (some ⟨g, 0, none⟩) c (partTo a b zs (j + 1)) (pa.set (10 * a + b) true) ck by
            rw [unhide hsu, loseL, if_neg (fun h => ht h.2)]
            have e : (partTo a b zs j).set j zs[j] = partTo a b zs j := by
              conv => lhs; rw [← partTo_get (a : Int) (b : Int) hjn hjl]
              exact List.set_getElem_self hjl
            rw [e]
            exact unhide H)
          rw [hf] at p1
          clear hgone
          go_wp2
          exact ⟨⟨j + 1, by omega, by go_num, unhide H5, unhide G⟩, by simp [intOf]; omega⟩
      · have H5 := hide (show RefAt base wr R (some ⟨g, 0, none⟩) c (partTo a b zs (j + 1)) (pa.set (10 * a + b) true) ck by
          rw [unhide hsu, loseL, if_neg (fun h => hf h.1)]
          have e : (partTo a b zs j).set j zs[j] = partTo a b zs j := by
            conv => lhs; rw [← partTo_get (a : Int) (b : Int) hjn hjl]
            exact List.set_getElem_self hjl
          rw [e]
          exact unhide H)
        clear hgone
        go_wp2
        exact ⟨⟨j + 1, by omega, by go_num, unhide H5, unhide G⟩, by simp [intOf]; omega⟩
    · obtain rfl : j = zs.length := by omega
      have H5 := hide (show RefAt base wr R sp c (zs.map (loseL a b)) (pa.set (10 * a + b) true) ck by simpa [partTo] using unhide H)
      go_wp2
      go_ret
      exact ⟨rfl, unhide H5, unhide G⟩
end
end Go.Proofs.Yticemhnfcelpmaa
