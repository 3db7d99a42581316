/- The document's disk: units, what they make of bytes (plain). -/
import Derived.Test.YtghdiemihceaoaaDkn
namespace Go.Proofs.Ytghdiemihceaoaa
open Go.ChangeShapes Go.WideShapes Go.ChangeAt Go.RowKit Go.Maps

/-- A unit: a Cut, or a byte at a place. -/
abbrev Un := Bool × Nat × Nat
def unitsOf (c : Chg) : List Un := if c.1 then [(true, c.2.1, 0)] else (List.range c.2.2.length).map (fun i => (false, c.2.1 + i, c.2.2.getD i 0))
def usL (cs : List Chg) : List Un := cs.flatMap unitsOf
def stepU (y : List Nat) (u : Un) : List Nat := if u.1 then y.take u.2.1 else if u.2.1 < y.length then y.set u.2.1 u.2.2 else y ++ [u.2.2]
def madeU (us : List Un) (y : List Nat) (j : Nat) : List Nat := (us.take j).foldl stepU y
theorem madeU_zero (us : List Un) (y : List Nat) : madeU us y 0 = y := rfl
theorem madeU_succ (us : List Un) (y : List Nat) (j : Nat) (hj : j < us.length) : madeU us y (j + 1) = stepU (madeU us y j) us[j] := by
  unfold madeU
  rw [List.take_succ_eq_append_getElem hj, List.foldl_append]
  rfl
theorem madeU_all (us : List Un) (y : List Nat) (j : Nat) (hj : us.length ≤ j) : madeU us y j = madeU us y us.length := by
  unfold madeU
  rw [List.take_of_length_le hj, List.take_of_length_le (Nat.le_refl _)]
theorem madeU_app (p r : List Un) (y : List Nat) (j : Nat) : madeU (p ++ r) y (p.length + j) = madeU r (madeU p y p.length) j := by
  unfold madeU
  rw [List.take_append, List.take_of_length_le (by omega), List.take_of_length_le (Nat.le_refl _), List.foldl_append]
  rw [show p.length + j - p.length = j by omega]
theorem madeU_left (p r : List Un) (y : List Nat) (j : Nat) (hj : j ≤ p.length) : madeU (p ++ r) y j = madeU p y j := by
  unfold madeU
  rw [List.take_append_of_le_length hj]
theorem unitsOf_length (c : Chg) : (unitsOf c).length = unitsC c := by
  unfold unitsOf unitsC
  split <;> simp
theorem made_write (z : Nat) (o : List Nat) (y : List Nat) (hz : z ≤ y.length) : ∀ j, j ≤ o.length → madeU (unitsOf (false, z, o)) y j = overL y z (o.take j)
  | 0, _ => by rw [madeU_zero, List.take_zero, overL_nil]
  | j + 1, hj => by
    have hl : (unitsOf (false, z, o)).length = o.length := by rw [unitsOf_length]; rfl
    have hu : (unitsOf (false, z, o))[j]'(by omega) = (false, z + j, o[j]) := by
      simp only [unitsOf, Bool.false_eq_true, if_false, List.getElem_map, List.getElem_range]
      rw [List.getD_eq_getElem?_getD, List.getElem?_eq_getElem (by omega)]
      rfl
    rw [madeU_succ _ _ _ (by omega), made_write z o y hz j (by omega), hu]
    unfold stepU
    simp only [Bool.false_eq_true, if_false]
    have hlen : (overL y z (o.take j)).length = max y.length (z + j) := by rw [overL_length _ _ _ hz, List.length_take]; omega
    by_cases hin : z + j < y.length
    · rw [if_pos (by omega), overL_set y z j o hz (by omega) hin]
    · rw [if_neg (by omega), overL_app y z j o (by omega) hin]
/-- The first units are what a crash leaves of the changes; a Cut stands within the bytes. -/
theorem made_crash : ∀ (cs : List Chg) (y : List Nat), fitsC cs y → (∀ c ∈ cs, smallC c) → (∀ j, j ≤ (usL cs).length → madeU (usL cs) y j = (crashL cs y j).1) ∧ (∀ j (hj : j < (usL cs).length), (usL cs)[j].1 = true → (usL cs)[j].2.1 ≤ (madeU (usL cs) y j).length)
  | [], y, _, _ => by
    refine ⟨fun j hj => ?_, fun j hj => ?_⟩
    · simp only [usL, List.flatMap_nil, List.length_nil, Nat.le_zero] at hj
      subst hj
      rfl
    · simp [usL] at hj
  | c :: cs, y, hf, hs => by
    have hsc := hs c List.mem_cons_self
    have ih := made_crash cs (ontoC c y (unitsC c)) hf.2.2 (fun x hx => hs x (List.mem_cons_of_mem _ hx))
    have hus : usL (c :: cs) = unitsOf c ++ usL cs := by simp [usL]
    have hlc := unitsOf_length c
    have hpos : 0 < unitsC c := by
      unfold unitsC
      cases h : c.1 with
      | true => simp
      | false => simp only [Bool.false_eq_true, if_false]; exact (hsc.1 h).2
    have hfirst : ∀ j, j ≤ unitsC c → madeU (unitsOf c) y j = if j = 0 then y else ontoC c y j := by
      intro j hj
      obtain ⟨cut, z, o⟩ := c
      cases cut with
      | true =>
        have : unitsC (true, z, o) = 1 := rfl
        rw [this] at hj
        rcases (show j = 0 ∨ j = 1 by omega) with rfl | rfl
        · rw [if_pos rfl]; rfl
        · rw [if_neg (by omega)]; simp [madeU, unitsOf, stepU, ontoC]
      | false =>
        rw [made_write z o y hf.1 j hj]
        split
        · rename_i h; subst h; rw [List.take_zero, overL_nil]
        · simp [ontoC]
    have hall : madeU (unitsOf c) y (unitsOf c).length = ontoC c y (unitsC c) := by
      rw [hlc, hfirst _ (Nat.le_refl _), if_neg (by omega)]
    refine ⟨fun j hj => ?_, fun j hj hcut => ?_⟩
    · rw [hus] at hj ⊢
      rw [List.length_append] at hj
      by_cases h1 : j ≤ unitsC c
      · rw [madeU_left _ _ _ _ (by omega), hfirst j h1]
        unfold crashL
        split
        · rfl
        · rw [show min j (unitsC c) = j by omega, Nat.sub_self, crashL_zero]
      · obtain ⟨i, rfl⟩ : ∃ i, j = (unitsOf c).length + i := ⟨j - (unitsOf c).length, by omega⟩
        rw [madeU_app, hall, ih.1 i (by omega)]
        unfold crashL
        rw [if_neg (by omega), show min ((unitsOf c).length + i) (unitsC c) = unitsC c by omega, show (unitsOf c).length + i - unitsC c = i by omega]
        cases cs with
        | nil => rfl
        | cons x r => rfl
    · simp only [hus] at hj hcut ⊢
      rw [List.length_append] at hj
      by_cases h1 : j < (unitsOf c).length
      · rw [List.getElem_append_left h1] at hcut ⊢
        rw [madeU_left _ _ _ _ (by omega)]
        obtain ⟨cut, z, o⟩ := c
        cases cut with
        | true =>
          have : (unitsOf (true, z, o)).length = 1 := rfl
          rw [this] at h1
          obtain rfl : j = 0 := by omega
          exact hf.1
        | false => simp [unitsOf] at hcut
      · obtain ⟨i, rfl⟩ : ∃ i, j = (unitsOf c).length + i := ⟨j - (unitsOf c).length, by omega⟩
        rw [List.getElem_append_right (by omega)] at hcut ⊢
        simp only [show (unitsOf c).length + i - (unitsOf c).length = i by omega] at hcut ⊢
        rw [madeU_app, hall]
        exact ih.2 i (by omega) hcut
theorem crashL_all : ∀ (cs : List Chg) (y : List Nat), (∀ c ∈ cs, smallC c) → ∀ n, (usL cs).length ≤ n → crashL cs y n = (nowC cs y, n - (usL cs).length)
  | [], y, _, n, _ => by simp [crashL, nowC, usL]
  | c :: cs, y, hs, n, hn => by
    have hus : usL (c :: cs) = unitsOf c ++ usL cs := by simp [usL]
    rw [hus, List.length_append, unitsOf_length] at hn ⊢
    have hsc := hs c List.mem_cons_self
    have hpos : 0 < unitsC c := by
      unfold unitsC
      cases h : c.1 with
      | true => simp
      | false => simp only [Bool.false_eq_true, if_false]; exact (hsc.1 h).2
    unfold crashL
    rw [if_neg (by omega), show min n (unitsC c) = unitsC c by omega, crashL_all cs _ (fun x hx => hs x (List.mem_cons_of_mem _ hx)) _ (by omega)]
    simp only [nowC, Prod.mk.injEq, true_and]
    omega
/-- What a file's changes must be for its units to be read. -/
structure SOk (s : Sp) : Prop where
  fit : fitsC s.cs s.y
  small : ∀ c ∈ s.cs, smallC c
  y8 : s.y.length ≤ 262144
  yb : ∀ b ∈ s.y, b < 256
  cb : ∀ c ∈ s.cs, ∀ b ∈ c.2.2, b < 256
def Sp.us (s : Sp) : List Un := usL s.cs
section
variable {s : Sp}
theorem SOk.made (h : SOk s) (n : Nat) : madeU s.us s.y n = (crashL s.cs s.y n).1 := by
  by_cases hn : n ≤ s.us.length
  · exact (made_crash s.cs s.y h.fit h.small).1 n hn
  · have e1 := (made_crash s.cs s.y h.fit h.small).1 _ (Nat.le_refl _)
    rw [crashL_all s.cs s.y h.small _ (Nat.le_refl _)] at e1
    rw [madeU_all _ _ _ (by omega), crashL_all s.cs s.y h.small n (by have : s.us = usL s.cs := rfl; rw [this] at hn; omega)]
    exact e1
theorem SOk.now (h : SOk s) : madeU s.us s.y s.us.length = s.now := by
  have e1 := (made_crash s.cs s.y h.fit h.small).1 _ (Nat.le_refl _)
  rw [crashL_all s.cs s.y h.small _ (Nat.le_refl _)] at e1
  exact e1
theorem SOk.len (h : SOk s) (n : Nat) : (madeU s.us s.y n).length ≤ 262144 := by
  rw [h.made]
  exact crashL_small _ _ _ h.fit h.small h.y8
theorem SOk.cut (h : SOk s) (j : Nat) (hj : j < s.us.length) (hc : s.us[j].1 = true) : s.us[j].2.1 ≤ (madeU s.us s.y j).length := (made_crash s.cs s.y h.fit h.small).2 j hj hc
theorem SOk.byte (h : SOk s) (j : Nat) (hj : j < s.us.length) : s.us[j].2.2 < 256 := by
  have hm : s.us[j] ∈ s.us := List.getElem_mem hj
  obtain ⟨c, hc, hu⟩ := List.mem_flatMap.1 (show s.us[j] ∈ s.cs.flatMap unitsOf from hm)
  unfold unitsOf at hu
  split at hu
  · simp only [List.mem_singleton] at hu
    rw [hu]; simp
  · obtain ⟨i, hi, hu⟩ := List.mem_map.1 hu
    rw [← hu]
    have hi2 := List.mem_range.1 hi
    show c.2.2.getD i 0 < 256
    rw [List.getD_eq_getElem?_getD, List.getElem?_eq_getElem hi2]
    exact h.cb c hc _ (List.getElem_mem hi2)
theorem SOk.lt (h : SOk s) (n : Nat) : ∀ b ∈ madeU s.us s.y n, b < 256 := by
  rw [h.made]
  exact crashL_lt _ _ _ h.cb h.yb
end
end Go.Proofs.Ytghdiemihceaoaa
