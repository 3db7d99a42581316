/- Heads, in plain words: where texts are cut. -/
import Derived.Test.YtcmiappiocfbiaaGreatDoorHd0
namespace Go.Proofs.YtcmiappiocfbiaaGreatDoor
set_option linter.unusedVariables false

theorem cut1_app {c : UInt8} {a : Tx} (h : c ∉ a) (b : Tx) : cutL [c] (a ++ c :: b) = (a, some b) := by
  induction a with
  | nil => simp [cutL, List.isPrefixOf]
  | cons x t ih =>
    have hx : ¬ c = x := fun e => h (by simp [e])
    rw [List.cons_append, cutL, if_neg (by simp [List.isPrefixOf, hx]), ih (fun e => h (List.mem_cons_of_mem _ e))]
theorem cut1_no {c : UInt8} {a : Tx} (h : c ∉ a) : cutL [c] a = (a, none) := by
  induction a with
  | nil => rfl
  | cons x t ih =>
    have hx : ¬ c = x := fun e => h (by simp [e])
    rw [cutL, if_neg (by simp [List.isPrefixOf, hx]), ih (fun e => h (List.mem_cons_of_mem _ e))]
theorem cut2_app {a : Tx} (h : (13 : UInt8) ∉ a) (b : Tx) : cutL crlf (a ++ (crlf ++ b)) = (a, some b) := by
  induction a with
  | nil => simp [cutL, crlf, List.isPrefixOf]
  | cons x t ih =>
    have hx : ¬ (13 : UInt8) = x := fun e => h (by simp [e])
    rw [List.cons_append, cutL, if_neg (by simp [crlf, List.isPrefixOf, hx]), ih (fun e => h (List.mem_cons_of_mem _ e))]
theorem cut4_end {a : Tx} (h : (13 : UInt8) ∉ a) (b : Tx) : cutL (crlf ++ crlf) (a ++ (crlf ++ (crlf ++ b))) = (a, some b) := by
  induction a with
  | nil => simp [cutL, crlf, List.isPrefixOf]
  | cons x t ih =>
    have hx : ¬ (13 : UInt8) = x := fun e => h (by simp [e])
    rw [List.cons_append, cutL, if_neg (by simp [crlf, List.isPrefixOf, hx]), ih (fun e => h (List.mem_cons_of_mem _ e))]
theorem cut4_step {a : Tx} (h : (13 : UInt8) ∉ a) (x : UInt8) (r : Tx) (hx0 : x ≠ 13) : cutL (crlf ++ crlf) (a ++ (crlf ++ (x :: r))) = (a ++ (crlf ++ (cutL (crlf ++ crlf) (x :: r)).1), (cutL (crlf ++ crlf) (x :: r)).2) := by
  induction a with
  | nil =>
    have hx : ¬ (13 : UInt8) = x := fun e => hx0 e.symm
    show cutL (crlf ++ crlf) (13 :: 10 :: x :: r) = (13 :: 10 :: (cutL (crlf ++ crlf) (x :: r)).1, _)
    rw [cutL, if_neg (by simp [crlf, List.isPrefixOf, hx]), cutL, if_neg (by simp [crlf, List.isPrefixOf])]
  | cons y t ih =>
    have hy : ¬ (13 : UInt8) = y := fun e => h (by simp [e])
    rw [List.cons_append, cutL, if_neg (by simp [crlf, List.isPrefixOf, hy]), ih (fun e => h (List.mem_cons_of_mem _ e))]
    rfl
theorem cut4_short {a t : Tx} (h : (13 : UInt8) ∉ a) (ht : t.length < 4) : (cutL (crlf ++ crlf) (a ++ t)).2 = none := by
  induction a with
  | nil =>
    match t, ht with
    | [], _ => rfl
    | [x], _ => simp [cutL, crlf, List.isPrefixOf]
    | [x, y], _ => simp [cutL, crlf, List.isPrefixOf]
    | [x, y, z], _ => simp [cutL, crlf, List.isPrefixOf]
    | _ :: _ :: _ :: _ :: u, ht => simp at ht; omega
  | cons y u ih =>
    have hy : ¬ (13 : UInt8) = y := fun e => h (by simp [e])
    rw [List.cons_append, cutL, if_neg (by simp [crlf, List.isPrefixOf, hy])]
    exact ih (fun e => h (List.mem_cons_of_mem _ e))
end Go.Proofs.YtcmiappiocfbiaaGreatDoor
