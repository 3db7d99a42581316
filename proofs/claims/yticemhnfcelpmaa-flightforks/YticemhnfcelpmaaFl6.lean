/- Flight: Now, Tick. -/
import Derived.Test.YticemhnfcelpmaaFl3
import Derived.RegionTactic
import Derived.BigRegion
namespace Go.Proofs.Yticemhnfcelpmaa
open Go.ChangeShapes Go.WideShapes Go.ChangeAt Go.RowKit Go.Maps

section
variable {base : Nat} {w : World} {N M n : Nat} {sp : Option Addr} {c : Nat} {xs : List (Pkt × Hdl)} {last : Int} {S : Int → Int → Bool} {ck : List Int}
theorem NetAt.drew (h : NetAt base w N M n sp c xs last S ck) : NetAt base w.drew N M n sp c xs last S ck := ⟨h.blk, h.own.drew, h.map, h.lowN, h.lowM, h.nine⟩
theorem NGrew.drew {w' : World} {sp' : Option Addr} (h : NGrew N M w sp w' sp') : NGrew N M w sp w'.drew sp' := ⟨h.os, h.tape, h.output, h.size, h.block, h.lies⟩
theorem isN_nat {k : Int} (h : isN k = true) : ∃ j : Nat, j < 9 ∧ k = ((j : Int) + 1) := by
  simp only [isN, Bool.and_eq_true, decide_eq_true_eq] at h
  exact ⟨(k - 1).toNat, by omega, by omega⟩
theorem now_no (h : NetAt base w N M n sp c xs last S ck) (k : Int) (hk : isN k = false) : Calls Try.prog 41 #[.pointer (some ⟨N, 0, none⟩), .int .i64 k] w fun e w' => e = .returned (.int .i64 0) ∧ w' = w := by
  go_enter Try.func41, Try.ntmps41
  go_wp2_with fail
  refine (isNode_calls k _).mono ?_
  rintro e w1 ⟨rfl, rfl⟩
  rw [hk]
  go_wp2
  go_ret
  exact ⟨rfl, rfl⟩
theorem now_yes (h : NetAt base w N M n sp c xs last S ck) (j : Nat) (hj : j < 9) : Calls Try.prog 41 #[.pointer (some ⟨N, 0, none⟩), .int .i64 ((j : Int) + 1)] w fun e w' => e = .returned (.int .i64 (ck.getD j 0)) ∧ w' = w := by
  have cj := h.ck j hj
  have hi : isN ((j : Int) + 1) = true := by simp [isN]; omega
  have h0 : (0 : Int) ≤ (j : Int) := by omega
  have h1 : (j : Int) < 9 := by omega
  clear h
  go_enter Try.func41, Try.ntmps41
  go_wp2_with fail
  refine (isNode_calls _ _).mono ?_
  rintro e w1 ⟨rfl, rfl⟩
  rw [hi]
  go_wp2
  go_ret
  exact ⟨rfl, rfl⟩
theorem tick_no (k : Int) (hk : isN k = false) : Calls Try.prog 36 #[.pointer (some ⟨N, 0, none⟩), .int .i64 k] w fun e w' => e = .returned (.tuple #[.int .i64 0, .int .i64 2]) ∧ w' = w := by
  go_enter Try.func36, Try.ntmps36
  go_wp2_with fail
  refine (isNode_calls k _).mono ?_
  rintro e w1 ⟨rfl, rfl⟩
  rw [hk]
  go_wp2
  go_ret2
  exact ⟨rfl, rfl⟩
set_option maxHeartbeats 2000000 in
theorem tick_yes (h : NetAt base w N M n sp c xs last S ck) (j : Nat) (hj : j < 9) (hc0 : 0 ≤ ck.getD j 0) (hc1 : ck.getD j 0 ≤ 1000000) : Calls Try.prog 36 #[.pointer (some ⟨N, 0, none⟩), .int .i64 ((j : Int) + 1)] w fun e w' => e = .returned (.tuple #[.int .i64 (ck.getD j 0 + 1), .int .i64 0]) ∧ NetAt base w' N M n sp c xs last S (ck.set j (ck.getD j 0 + 1)) ∧ NGrew N M w sp w' sp := by
  have cj := h.ck j hj
  have fj := h.fz (3 + j)
  have hi : isN ((j : Int) + 1) = true := by simp [isN]; omega
  have h0 : (0 : Int) ≤ (j : Int) := by omega
  have h1 : (j : Int) < 9 := by omega
  have hj9 := h.nine
  have H := hide h
  clear h
  generalize hv : ck.getD j 0 = v at *
  have hw : IntKind.i64.wrap (v + 1) = v + 1 := by rw [IntKind.wrap_i64]; omega
  go_enter Try.func36, Try.ntmps36
  go_wp2_with fail
  refine (isNode_calls _ _).mono ?_
  rintro e w1 ⟨rfl, rfl⟩
  rw [hi]
  go_wp2_with fail
  go_region
  have HS := hide (show NetAt base (w1.setCell ⟨N, 3 + j, none⟩ (.int .i64 (v + 1))).drew N M n sp c xs last S (ck.set j (v + 1)) from ((unhide H).setCk j (v + 1)).drew)
  have GS := hide (show NGrew N M w1 sp (w1.setCell ⟨N, 3 + j, none⟩ (.int .i64 (v + 1))).drew sp from (NGrew.ofN (grown_set w1 N (3 + j) (.int .i64 (v + 1)))).drew)
  have hset : (ck.set j (v + 1)).getD j 0 = v + 1 := by
    rw [List.getD_eq_getElem?_getD, List.getElem?_set_self (by omega)]; rfl
  go_wp2_with fail
  refine (now_yes (unhide HS) j hj).mono ?_
  rintro e w2 ⟨rfl, rfl⟩
  rw [hset]
  go_wp2
  go_ret2
  exact ⟨rfl, unhide HS, unhide GS⟩
end
end Go.Proofs.Yticemhnfcelpmaa
