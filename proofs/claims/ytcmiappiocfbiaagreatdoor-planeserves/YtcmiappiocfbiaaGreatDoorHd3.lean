/- Heads: texts all of whose letters are of a kind, tokens, paths, queries. -/
import Derived.Test.YtcmiappiocfbiaaGreatDoorHd2
namespace Go.Proofs.YtcmiappiocfbiaaGreatDoor
open Go.ChangeShapes Go.WideShapes Go.ChangeAt Go.RowKit
set_option linter.unusedVariables false

set_option maxRecDepth 20000 in
set_option maxHeartbeats 4000000 in
theorem kindsOf_hi (c : Nat) (hc : 128 ≤ c) (hm : c ≤ 2147483647) (w : World) : Calls Tryz.prog 120 #[.int .i32 (c : Int)] w fun e w' => e = .returned (.int .i64 64) ∧ Below w.heap.size w w' := by
  have R1 := hide (fun W => hasRune_hi ks1 c W (by decide) (by decide) (by decide) (by omega) (by omega))
  have R2 := hide (fun W => hasRune_hi ks2 c W (by decide) (by decide) (by decide) (by omega) (by omega))
  have R3 := hide (fun W => hasRune_hi ks3 c W (by decide) (by decide) (by decide) (by omega) (by omega))
  have b1 : ∀ lo hi W, hi < 128 → Calls Tryz.prog 131 #[.int .i32 (c : Int), .int .i32 lo, .int .i32 hi] W fun e w' => e = .returned (.bool false) ∧ w' = W := fun lo hi W h => by
    have := between_calls c lo hi W
    rwa [decide_eq_false (by omega)] at this
  have B := hide b1
  have n1 : ((c : Int) == 45) = false := by simp; omega
  have n2 : ((c : Int) == 63) = false := by simp; omega
  have n3 : ((c : Int) == 9) = false := by simp; omega
  have n4 : (127 : Int) < (c : Int) := by omega
  clear b1
  go_enter Tryz.func120, Tryz.ntmps120
  go_wp2_with (first
    | (go_at_call 131; refine (unhide B _ _ _ (by decide)).mono ?_; rintro e w' ⟨rfl, hw⟩; rw [hw]; clear hw)
    | (have hV : W2 = W2 := rfl
       clear hV
       go_at_call 112; refine (unhide R3 _).mono ?_; rintro e W3 ⟨rfl, hb3⟩
       have H3 := hide ((unhide H2).trans (hb3.mono (unhide H2).size))
       clear hb3)
    | (have hV : W1 = W1 := rfl
       clear hV
       go_at_call 112; refine (unhide R2 _).mono ?_; rintro e W2 ⟨rfl, hb2⟩
       have H2 := hide ((unhide H1).trans (hb2.mono (unhide H1).size))
       clear hb2)
    | (go_at_call 112; refine (unhide R1 _).mono ?_; rintro e W1 ⟨rfl, hb1⟩
       have H1 := hide hb1
       clear hb1))
  go_ret
  exact ⟨rfl, unhide H3⟩
theorem kindsOf_any (c : Nat) (hm : c ≤ 2147483647) (w : World) : Calls Tryz.prog 120 #[.int .i32 (c : Int)] w fun e w' => e = .returned (.int .i64 (kindsN c : Int)) ∧ Below w.heap.size w w' := by
  by_cases h : c < 128
  · refine (kindsOf_lo c h w).mono ?_
    rintro e w' ⟨rfl, rfl⟩
    exact ⟨rfl, Below.refl _ _⟩
  · rw [kindsN_high c (by omega)]
    exact kindsOf_hi c (by omega) hm w
theorem and_is (a k : Nat) (ha : a < 128) (hk : k < 128) : bits .and .i64 (a : Int) (k : Int) = ((a &&& k : Nat) : Int) := by
  have hl : a &&& k ≤ a := Nat.and_le_left
  show IntKind.i64.wrap ((BitVec.ofInt 64 (a : Int) &&& BitVec.ofInt 64 (k : Int)).toNat : Int) = _
  rw [BitVec.toNat_and, ofInt_u64 a (by omega), ofInt_u64 k (by omega), IntKind.wrap_i64]
  omega
set_option maxHeartbeats 1000000 in
theorem is_calls (x : UInt8) (k : Nat) (hk : k < 128) (w : World) : Calls Tryz.prog 109 #[.int .u8 (x.toNat : Int), .int .i64 (k : Int)] w fun e w' => e = .returned (.bool (isK k x)) ∧ Below w.heap.size w w' := by
  have K := hide (fun W => kindsOf_any x.toNat (by have := x.toNat_lt; omega) W)
  have hx := x.toNat_lt
  have hw : IntKind.i32.wrap (x.toNat : Int) = (x.toNat : Int) := by rw [IntKind.wrap_i32]; omega
  have ha := and_is (kindsN x.toNat) k (kindsN_lt _) hk
  have hb : ((((kindsN x.toNat &&& k : Nat) : Int)) != 0) = isK k x := by
    unfold isK
    rw [Bool.eq_iff_iff]; simp
  generalize kindsN x.toNat = n at *
  go_enter Tryz.func109, Tryz.ntmps109
  go_wp2_with (go_at_call 120; refine (unhide K _).mono ?_; rintro e w' ⟨rfl, hb1⟩)
  go_ret
  exact ⟨by rw [← hb]; rfl, hb1⟩
end Go.Proofs.YtcmiappiocfbiaaGreatDoor
