/- Conf: what ConfWeights asks besides: a weight's command; which bits may be. -/
import Derived.Test.YtpkpnedcecjlbaaGreatDoorB31
import Derived.Test.YtpkpnedcecjlbaaGreatDoorB37
import Derived.Test.YtpkpnedcecjlbaaGreatDoorB34
namespace Go.Proofs.YtpkpnedcecjlbaaGreatDoor
open Go.ChangeShapes Go.WideShapes Go.ChangeAt Go.RowKit
set_option linter.unusedVariables false

theorem u64_nat {n : Int} (h : (Lit.int .u64 n).wf = true) : ∃ m : Nat, n = (m : Int) ∧ m < 18446744073709551616 := by
  have := bounds_u64 h
  exact ⟨n.toNat, by omega, by omega⟩
def wC (x : Nat) : Cmd := ⟨1, 0, 0, -1, ⟨#[]⟩, ⟨#[]⟩, ⟨#[97]⟩, [(⟨#[116]⟩, x)]⟩
theorem wC_check (x : Nat) : checkC (wC x) = if x < 9218868437227405312 then 0 else 15 := by
  have e1 : (numsOk (wC x) && unusedOk (wC x)) = true := by rfl
  have e2 : namesOk (wC x) = true := by rfl
  have e3 : wtsOk (wC x).ts = decide (x < 9218868437227405312) := by simp [wtsOk, wC, wtB]
  unfold checkC
  rw [if_pos e1, if_pos e2, e3]
  by_cases h : x < 9218868437227405312
  · rw [if_pos (decide_eq_true h), if_pos h]; rfl
  · rw [if_neg (by simp [h]), if_neg h]
theorem le_top {x : Nat} (hx : x ≤ fI) : (FloatKind.f64.format.order x 9218868437227405311 == some Ordering.lt || FloatKind.f64.format.order x 9218868437227405311 == some Ordering.eq) = decide (x < 9218868437227405312) := by
  have hx2 : x ≤ 9218868437227405312 := hx
  rw [show FloatKind.f64.format.order x 9218868437227405311 = _ from order_is hx (by decide)]
  rcases Nat.lt_trichotomy x 9218868437227405311 with h | h | h
  · rw [Nat.compare_eq_lt.2 h, decide_eq_true (by omega)]; rfl
  · rw [Nat.compare_eq_eq.2 h, decide_eq_true (by omega)]; rfl
  · rw [Nat.compare_eq_gt.2 h, decide_eq_false (by omega)]; rfl
theorem le_neg0 : (FloatKind.f64.format.order 9223372036854775808 9218868437227405311 == some Ordering.lt || FloatKind.f64.format.order 9223372036854775808 9218868437227405311 == some Ordering.eq) = true := by
  rw [show (FloatKind.f64.format.order 9223372036854775808 9218868437227405311 == some Ordering.lt) = _ from lt_neg0 9218868437227405311 (by decide)]
  rfl
set_option maxRecDepth 20000 in
set_option maxHeartbeats 4000000 in
theorem lpoolW_calls (w : World) (nm : ByteArray) : Calls Tryz.prog 17 #[.string nm] w fun e w' => ∃ B, e = .returned (cmdVal (poolC nm) (some ⟨B, 0, none⟩) 1) ∧ TgsAt w' (some ⟨B, 0, none⟩) (poolC nm).ts ∧ w'.heap[B]? = some (.cells #[.string ⟨#[116]⟩, .float .f64 4607182418800017408] 43 (0, 0)) ∧ w.heap.size ≤ B ∧ Below w.heap.size w w' := by
  have b1 : Below w.heap.size w (w.alloc (.cells #[.int .i64 1, .int .i64 0, .int .i64 0, .int .i64 (-1), .string ⟨#[]⟩, .string ⟨#[]⟩, .string nm, .slice (some ⟨w.heap.size + 1, 0, none⟩) 1 1] 25)) := (Below.refl _ _).alloc (Nat.le_refl _) _
  have b2 := hide (b1.alloc b1.size (.cells #[.string ⟨#[116]⟩, .float .f64 4607182418800017408] 43))
  have s1 : (w.alloc (.cells #[.int .i64 1, .int .i64 0, .int .i64 0, .int .i64 (-1), .string ⟨#[]⟩, .string ⟨#[]⟩, .string nm, .slice (some ⟨w.heap.size + 1, 0, none⟩) 1 1] 25)).heap.size = w.heap.size + 1 := by simp
  have X1 : ((w.alloc (.cells #[.int .i64 1, .int .i64 0, .int .i64 0, .int .i64 (-1), .string ⟨#[]⟩, .string ⟨#[]⟩, .string nm, .slice (some ⟨w.heap.size + 1, 0, none⟩) 1 1] 25)).alloc (.cells #[.string ⟨#[116]⟩, .float .f64 4607182418800017408] 43)).heap[w.heap.size]? = some (.cells #[.int .i64 1, .int .i64 0, .int .i64 0, .int .i64 (-1), .string ⟨#[]⟩, .string ⟨#[]⟩, .string nm, .slice (some ⟨w.heap.size + 1, 0, none⟩) 1 1] 25 (0, 0)) := by rw [Below.heap_alloc _ _ _ (by simp)]; exact heap_new _ _
  have X2 : ((w.alloc (.cells #[.int .i64 1, .int .i64 0, .int .i64 0, .int .i64 (-1), .string ⟨#[]⟩, .string ⟨#[]⟩, .string nm, .slice (some ⟨w.heap.size + 1, 0, none⟩) 1 1] 25)).alloc (.cells #[.string ⟨#[116]⟩, .float .f64 4607182418800017408] 43)).heap[w.heap.size + 1]? = some (.cells #[.string ⟨#[116]⟩, .float .f64 4607182418800017408] 43 (0, 0)) := by
    have h := heap_new (w.alloc (.cells #[.int .i64 1, .int .i64 0, .int .i64 0, .int .i64 (-1), .string ⟨#[]⟩, .string ⟨#[]⟩, .string nm, .slice (some ⟨w.heap.size + 1, 0, none⟩) 1 1] 25)) (.cells #[.string ⟨#[116]⟩, .float .f64 4607182418800017408] 43)
    rw [s1] at h
    exact h
  have g0 := fcell0 X1 0 _ rfl
  have g1 := fcell0 X1 1 _ rfl
  have g2 := fcell0 X1 2 _ rfl
  have g3 := fcell0 X1 3 _ rfl
  have g4 := fcell0 X1 4 _ rfl
  have g5 := fcell0 X1 5 _ rfl
  have g6 := fcell0 X1 6 _ rfl
  have g7 := fcell0 X1 7 _ rfl
  have t0 := fcell0 X2 0 _ rfl
  have t1 := fcell0 X2 1 _ rfl
  have TG := hide (show TgsAt ((w.alloc (.cells #[.int .i64 1, .int .i64 0, .int .i64 0, .int .i64 (-1), .string ⟨#[]⟩, .string ⟨#[]⟩, .string nm, .slice (some ⟨w.heap.size + 1, 0, none⟩) 1 1] 25)).alloc (.cells #[.string ⟨#[116]⟩, .float .f64 4607182418800017408] 43)) (some ⟨w.heap.size + 1, 0, none⟩) (poolC nm).ts from ⟨by simp [poolC], fun i hi => by
    obtain rfl : i = 0 := by simp [poolC] at hi; omega
    exact ⟨w.heap.size + 1, 0, rfl, t0, t1⟩⟩)
  have XH := hide X2
  clear b1 s1 X1 X2 t0 t1
  go_enter Tryz.func17, Tryz.ntmps17
  go_wp2
  exact bodyPost_ret (v := .agg #[.int .i64 1, .int .i64 0, .int .i64 0, .int .i64 (-1), .string ⟨#[]⟩, .string ⟨#[]⟩, .string nm, .slice (some ⟨w.heap.size + 1, 0, none⟩) 1 1]) (by simp [results, Tryz.results17, go_sem, g0, g1, g2, g3, g4, g5, g6, g7]) rfl ⟨w.heap.size + 1, rfl, unhide TG, unhide XH, Nat.le_succ _, unhide b2⟩
end Go.Proofs.YtpkpnedcecjlbaaGreatDoor
