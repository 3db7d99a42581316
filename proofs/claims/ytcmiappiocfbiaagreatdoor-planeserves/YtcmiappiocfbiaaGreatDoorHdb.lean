/- Heads: a head's text, line by line. -/
import Derived.Test.YtcmiappiocfbiaaGreatDoorHda
namespace Go.Proofs.YtcmiappiocfbiaaGreatDoor
open Go.ChangeShapes Go.WideShapes Go.ChangeAt Go.RowKit Go.Lib
set_option linter.unusedVariables false

/-- As Q; a goto to label 0: J, to label 1: J1; to any other one: no way out. -/
def Exit2 (J J1 : Act → World → Prop) (Q : Exit → Act → World → Prop) : Exit → Act → World → Prop
  | .goto l, a, w => (l = 0 ∧ J a w) ∨ (l = 1 ∧ J1 a w)
  | e, a, w => Q e a w
section
variable {P : Program} {a : Act} {w : World} {Q : Exit → Act → World → Prop}
/-- A scope in which the run jumps back to label 0 and, in the end, on to label 1. -/
theorem wp_scope_two {c R E : Code} (J : Act → World → Prop) (μ : Act → World → Nat) (h0 : findLabel c 0 = some (Code.seq .skip R)) (h1 : findLabel c 1 = some (Code.seq .skip E))
    (pass : ∀ a w, J a w → R.wp P (Exit2 (fun a' w' => J a' w' ∧ μ a' w' < μ a w) (fun a' w' => E.wp P (Exit.noGoto Q) a' w') Q) a w)
    (first : (∀ a w, J a w → R.wp P (Exit2 J (fun a' w' => E.wp P (Exit.noGoto Q) a' w') Q) a w) → c.wp P (Exit2 J (fun a' w' => E.wp P (Exit.noGoto Q) a' w') Q) a w) : (Code.scope c).wp P Q a w := by
  intro b k cs
  have g0 : gotoIn 0 (.inScope c :: k) = some (.code (Code.seq .skip R) :: .inScope c :: k) := by simp [gotoIn, h0]
  have g1 : gotoIn 1 (.inScope c :: k) = some (.code (Code.seq .skip E) :: .inScope c :: k) := by simp [gotoIn, h1]
  have out : ∀ a w, E.wp P (Exit.noGoto Q) a w → ∃ e a' w', Q e a' w' ∧ Arrives P (lone (b.at a (.code (Code.seq .skip E) :: .inScope c :: k)) cs w) b k cs e a' w' := by
    intro a w h
    obtain ⟨e, a1, w1, hq, har⟩ := (wp_seq (wp_skip h) : (Code.seq .skip E).wp P (Exit.noGoto Q) a w) b (.inScope c :: k) cs
    cases e with
    | normal => exact ⟨.normal, a1, w1, hq, Steps.trans har (.one step_inScope)⟩
    | exit id => exact ⟨.exit id, a1, w1, hq, fun k' hk => har k' (by simp [exitTo, hk])⟩
    | goto l => exact hq.elim
    | ret => exact ⟨_, a1, w1, hq, har⟩
    | panic ch => exact ⟨_, a1, w1, hq, har⟩
    | outgrown => exact ⟨_, a1, w1, hq, har⟩
  have back : ∀ n a w, μ a w = n → J a w → ∃ e a' w', Q e a' w' ∧ Arrives P (lone (b.at a (.code (Code.seq .skip R) :: .inScope c :: k)) cs w) b k cs e a' w' := by
    intro n
    induction n using Nat.strongRecOn with
    | _ n ih =>
      intro a w hn hJ
      obtain ⟨e, a1, w1, hq, har⟩ := (wp_seq (wp_skip (pass a w hJ)) : (Code.seq .skip R).wp P _ a w) b (.inScope c :: k) cs
      cases e with
      | normal => exact ⟨.normal, a1, w1, hq, Steps.trans har (.one step_inScope)⟩
      | exit id => exact ⟨.exit id, a1, w1, hq, fun k' hk => har k' (by simp [exitTo, hk])⟩
      | goto l =>
        rcases hq with ⟨rfl, hJ', hlt⟩ | ⟨rfl, hE⟩
        · obtain ⟨e2, a2, w2, hq2, har2⟩ := ih _ (by omega) a1 w1 rfl hJ'
          exact ⟨e2, a2, w2, hq2, .of_steps (har _ g0) har2⟩
        · obtain ⟨e2, a2, w2, hq2, har2⟩ := out a1 w1 hE
          exact ⟨e2, a2, w2, hq2, .of_steps (har _ g1) har2⟩
      | ret => exact ⟨_, a1, w1, hq, har⟩
      | panic ch => exact ⟨_, a1, w1, hq, har⟩
      | outgrown => exact ⟨_, a1, w1, hq, har⟩
  obtain ⟨e, a1, w1, hq, har⟩ := first (fun a w hJ => wp_mono (pass a w hJ) fun e a w h => by
    cases e with
    | goto l => exact h.imp (fun h => ⟨h.1, h.2.1⟩) id
    | _ => exact h) b (.inScope c :: k) cs
  cases e with
  | normal => exact ⟨.normal, a1, w1, hq, .head step_scope (Steps.trans har (.one step_inScope))⟩
  | exit id => exact ⟨.exit id, a1, w1, hq, fun k' hk => .head step_scope (har k' (by simp [exitTo, hk]))⟩
  | goto l =>
    rcases hq with ⟨rfl, hJ'⟩ | ⟨rfl, hE⟩
    · obtain ⟨e2, a2, w2, hq2, har2⟩ := back _ a1 w1 rfl hJ'
      exact ⟨e2, a2, w2, hq2, .of_steps (.head step_scope (har _ g0)) har2⟩
    · obtain ⟨e2, a2, w2, hq2, har2⟩ := out a1 w1 hE
      exact ⟨e2, a2, w2, hq2, .of_steps (.head step_scope (har _ g1)) har2⟩
  | ret => exact ⟨_, a1, w1, hq, .of_steps (.one step_scope) har⟩
  | panic ch => exact ⟨_, a1, w1, hq, .of_steps (.one step_scope) har⟩
  | outgrown => exact ⟨_, a1, w1, hq, .of_steps (.one step_scope) har⟩
end
/-- What is left to be told behind some fields. -/
def restL (m p q h : Tx) (fs : List Fd) (k : Nat) (rest : Tx) : Option Hd := match fieldsL k rest with
  | none => none
  | some gs => match hostOfL (fs ++ gs) with
    | none => none
    | some x => some ⟨m, p, q, if h = [] then x else h, fs ++ gs⟩
def zero5 : Array Value := #[.string ⟨#[]⟩, .string ⟨#[]⟩, .string ⟨#[]⟩, .string ⟨#[]⟩, .slice none 0 0]
theorem hostL_len {s h : Tx} (hh : hostL s = some h) : h.length ≤ 64 := by
  unfold hostL at hh
  split at hh
  · cases hh
  · rename_i hc
    cases hh
    unfold lowL Lib.toLowerA
    rw [List.length_map]
    have hi : isHostL (cutL [58] s).1 = true := by
      cases he : isHostL (cutL [58] s).1 with
      | true => rfl
      | false => rw [he] at hc; simp at hc
    unfold isHostL at hi
    rw [Bool.and_eq_true, decide_eq_true_eq] at hi
    exact hi.1
theorem targetL_len {t p q h : Tx} (ht : targetL t = some (p, q, h)) : h.length ≤ 64 := by
  cases hq : isQueryL (behindL [63] t) with
  | false => rw [targetL_0 hq] at ht; cases ht
  | true =>
    cases hp : httpL.isPrefixOf (cutL [63] t).1 with
    | false =>
      rw [targetL_1 hq hp] at ht
      split at ht
      · cases ht; simp
      · cases ht
    | true =>
      rw [targetL_2 hq hp] at ht
      cases hx : hostL (cutL [47] ((cutL [63] t).1.drop 7)).1 with
      | none => rw [hx] at ht; cases ht
      | some x =>
        rw [hx] at ht
        simp only at ht
        generalize isPathL (pathOf ((cutL [63] t).1.drop 7)) = b at ht
        cases b with
        | true => simp only [if_true, Option.some.injEq, Prod.mk.injEq] at ht; rw [← ht.2.2]; exact hostL_len hx
        | false => simp at ht
theorem requestL_len {t m p q h : Tx} (ht : requestL t = some (m, p, q, h)) : h.length ≤ 64 := by
  unfold requestL at ht
  split at ht
  · cases ht
  · rename_i a b c hx
    split at ht
    · cases ht; exact targetL_len hx
    · cases ht
theorem RC.other {B : Nat} {w : World} {g : Nat} {T : TypeId} {cs : Array Value} {W : World} (h : RC B w g T cs W) (H i : Nat) (v : Value) (hne : g ≠ H) (hB : B ≤ H) : RC B w g T cs (W.setCell ⟨H, i, none⟩ v) :=
  ⟨(heap_setCell_other W ⟨H, i, none⟩ g v hne).trans h.row, h.low, h.base, h.bel.setCell (p := ⟨H, i, none⟩) hB v⟩
/-- Where the walk from line to line stands. -/
structure RdJ (t : Tx) (w : World) (H F base : Nat) (rest : Tx) (ok : Bool) (W : World) : Prop where
  res : RC w.heap.size w w.heap.size 58 zero5 W
  hlo : w.heap.size < H
  flo : H < F
  blo : F < base
  bhi : base ≤ W.heap.size
  frow : ∃ x y, W.heap[F]? = some (.cells #[.string x, .string y] 86 (0, 0))
  hrow : ∃ m p q h sp c fs k, W.heap[H]? = some (.cells #[.string (stS m), .string (stS p), .string (stS q), .string (stS h), .slice sp (List.length fs) c] 58 (0, 0)) ∧ OwnFd base W sp c fs ∧ (ok = true → h.length ≤ 64 ∧ ∀ f ∈ fs, f.name.length ≤ 4096 ∧ f.value.length ≤ 4096) ∧ fs.length + rest.length ≤ 4096 ∧ rest.length ≤ k ∧ readL t = if ok then restL m p q h fs k rest else none
def RdA (s : ByteArray) (w : World) (H F : Nat) (rest : Tx) (ok : Bool) (a : Act) : Prop := ∃ u1 u4 u6 u10 u11 u12 u13 u14 u15 u16 u17 u18 u19 u20 u21 u22 u23 u24 u25 u26 u27 u28 u29 u30 u31 u32 u33 u34 u35 u36 u37 u38 u39 u40 u41 u42 u43 u44 u45 u46 u47 u48 u49 u50 u51 u52 u53 u54 u55 u56 : Value, a = { tmps := #[.string s, u1, .pointer (some ⟨w.heap.size, 0, none⟩), .bool false, u4, .string (stS rest), u6, .pointer (some ⟨H, 0, none⟩), .bool ok, .pointer (some ⟨F, 0, none⟩), u10, u11, u12, u13, u14, u15, u16, u17, u18, u19, u20, u21, u22, u23, u24, u25, u26, u27, u28, u29, u30, u31, u32, u33, u34, u35, u36, u37, u38, u39, u40, u41, u42, u43, u44, u45, u46, u47, u48, u49, u50, u51, u52, u53, u54, u55, u56], defers := [] }
def RdM (a : Act) (_ : World) : Nat := match a.tmps.getD 5 undef with | Value.string x => x.size | _ => 0
end Go.Proofs.YtcmiappiocfbiaaGreatDoor
