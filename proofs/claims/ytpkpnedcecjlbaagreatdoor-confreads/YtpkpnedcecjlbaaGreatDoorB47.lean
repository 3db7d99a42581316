/- Conf, plainly: the document's GetCommand tells what the program's does. -/
import Derived.Test.YtpkpnedcecjlbaaGreatDoorB46
namespace Go.Proofs.YtpkpnedcecjlbaaGreatDoor
set_option linter.unusedVariables false

def Lk {α : Type} (x y : α × Nat × Nat) : Prop := x.2.2 = y.2.2 ∧ (x.2.2 = 0 → x = y)
theorem Lk.rfl' {α : Type} (x : α × Nat × Nat) : Lk x x := ⟨rfl, fun _ => rfl⟩
theorem numZ_err {h : List Nat} {k e m : Nat} (he : e ≠ 0) : numZ h k e m = (0, k, e) := by simp [numZ, he]
theorem rowZ_err {h : List Nat} {k e n : Nat} (he : e ≠ 0) : rowZ h k e n = ([], k, e) := by simp [rowZ, he]
theorem txtZ_err {h : List Nat} {k e : Nat} (he : e ≠ 0) : txtZ h k e = ([], k, e) := by simp [txtZ, numZ_err he, rowZ_err he]
theorem tgsZ_err {h : List Nat} {k e : Nat} (he : e ≠ 0) : tgsZ h k e = ([], k, e) := by simp [tgsZ, numZ_err he, tgsGZ]
theorem cntK_err {h : List Nat} {k e m : Nat} (he : e ≠ 0) : cntK h k e m = (0, k, e) := by simp [cntK, numK_err he]
theorem txtK_err {h : List Nat} {k e : Nat} (he : e ≠ 0) : (txtK h k e).2.2 = e := by simp [txtK, cntK_err he, cutK_err he]
theorem tgK_err {h : List Nat} {k e : Nat} (he : e ≠ 0) : (tgK h k e).2.2 = e := by
  unfold tgK
  dsimp only
  unfold wtK
  dsimp only
  rw [txtK_err he, cutK_err he]
theorem tgsG_err {h : List Nat} : ∀ (n k : Nat) {e : Nat}, e ≠ 0 → (tgsG h n k e).2.2 = e
  | 0, k, e, he => rfl
  | n + 1, k, e, he => by
    rw [tgsG_step]
    dsimp only
    rw [tgK_err he]
    exact tgsG_err n _ he
theorem tgsK_err {h : List Nat} {k e : Nat} (he : e ≠ 0) : (tgsK h k e).2.2 = e := by simp only [tgsK, cntK_err he]; exact tgsG_err _ _ he
theorem lk_num {h : List Nat} (hb : ∀ c ∈ h, c < 256) (k e : Nat) : numZ h k e 1099511627776 = numK h k e := by
  by_cases he : e = 0
  · subst he
    unfold numZ numK
    cases ht : takeE h k with
    | ok q =>
      obtain ⟨n, k2⟩ := q
      have := (takeE_leb ht hb).2
      simp; omega
    | error x => simp
  · rw [numZ_err he, numK_err he]
theorem lk_cnt (h : List Nat) (k e m : Nat) : Lk (numZ h k e m) (cntK h k e m) := by
  by_cases he : e = 0
  · subst he
    unfold numZ cntK numK
    cases ht : takeE h k with
    | ok q =>
      obtain ⟨n, k2⟩ := q
      by_cases hm : m < n
      · simp [hm, Lk, failK]
      · simp [hm, Lk]
    | error x =>
      have := takeE_pos ht
      simp [Lk]
  · rw [numZ_err he, cntK_err he]; exact Lk.rfl' _
theorem lk_row (h : List Nat) (k e n : Nat) : rowZ h k e n = cutK h k e n := by
  by_cases he : e = 0
  · subst he
    unfold rowZ cutK cutX
    by_cases hs : h.length - k < n <;> simp [hs, failK]
  · rw [rowZ_err he, cutK_err he]
theorem lk_txt (h : List Nat) (k e : Nat) : Lk (txtZ h k e) (txtK h k e) := by
  obtain ⟨h1, h2⟩ := lk_cnt h k e 128
  unfold txtZ txtK
  dsimp only
  by_cases hx : (numZ h k e 128).2.2 = 0
  · rw [← h2 hx, lk_row]; exact Lk.rfl' _
  · rw [rowZ_err hx, ← h1, cutK_err hx]; exact ⟨rfl, fun h0 => absurd h0 hx⟩
theorem lk_tg (h : List Nat) (k e : Nat) : Lk (tgZ h k e) (tgK h k e) := by
  obtain ⟨h1, h2⟩ := lk_txt h k e
  unfold tgZ tgK wtK
  dsimp only
  by_cases hx : (txtZ h k e).2.2 = 0
  · rw [← h2 hx, lk_row]; exact Lk.rfl' _
  · rw [rowZ_err hx, ← h1, cutK_err hx]; exact ⟨rfl, fun h0 => absurd h0 hx⟩
theorem lk_tgsG (h : List Nat) : ∀ (n k e : Nat), Lk (tgsGZ h n k e) (tgsG h n k e)
  | 0, k, e => Lk.rfl' _
  | n + 1, k, e => by
    by_cases he : e = 0
    · subst he
      obtain ⟨h1, h2⟩ := lk_tg h k 0
      rw [tgsGZ_step, tgsG_step]
      by_cases hx : (tgZ h k 0).2.2 = 0
      · rw [← h2 hx]
        obtain ⟨h3, h4⟩ := lk_tgsG h n (tgZ h k 0).2.1 (tgZ h k 0).2.2
        exact ⟨h3, fun h0 => by rw [h4 h0]⟩
      · rw [tgsGZ_err h _ _ _ hx]
        refine ⟨?_, fun h0 => absurd h0 hx⟩
        dsimp only
        rw [← h1, tgsG_err _ _ hx]
    · rw [tgsGZ_err h _ _ _ he]
      exact ⟨(tgsG_err _ _ he).symm, fun h0 => absurd h0 he⟩
theorem lk_tgs (h : List Nat) (k e : Nat) : Lk (tgsZ h k e) (tgsK h k e) := by
  obtain ⟨h1, h2⟩ := lk_cnt h k e 16
  unfold tgsZ tgsK
  dsimp only
  by_cases hx : (numZ h k e 16).2.2 = 0
  · rw [← h2 hx]; exact lk_tgsG _ _ _ _
  · rw [tgsGZ_err h _ _ _ hx, ← h1]
    exact ⟨(tgsG_err _ _ hx).symm, fun h0 => absurd h0 hx⟩
def endF (l : List Nat) (z : Cmd × Nat × Nat) : Cmd × Nat := if z.2.2 ≠ 0 then (cz, z.2.2) else if z.2.1 < l.length ∨ checkC z.1 ≠ 0 then (cz, 4) else (z.1, 0)
def endH (g : Cmd × Nat) : Cmd × Nat := if g.2 = 0 then (g.1, 0) else (cz, g.2)
theorem endK_err {l : List Nat} {k e : Nat} (he : e ≠ 0) : endK l k e = e := by unfold endK; rw [failK_err he]; simp
theorem lk_step {α : Type} {l : List Nat} (zf : α × Nat × Nat → Cmd × Nat × Nat) (gf : α × Nat × Nat → Cmd × Nat) (hz : ∀ q, q.2.2 ≠ 0 → (zf q).2.2 = q.2.2) (hg : ∀ q, q.2.2 ≠ 0 → (gf q).2 = q.2.2) (ht : ∀ q, endF l (zf q) = endH (gf q)) {x y : α × Nat × Nat} (L : Lk x y) : endF l (zf x) = endH (gf y) := by
  by_cases hx : x.2.2 = 0
  · rw [← L.2 hx]; exact ht x
  · have hy : y.2.2 ≠ 0 := by rw [← L.1]; exact hx
    unfold endF endH
    rw [hz x hx, hg y hy, if_pos hx, if_neg hy, L.1]
section
variable (l : List Nat) (a b c d : Nat) (s t u : ByteArray)
theorem z8_err (q) (h : q.2.2 ≠ 0) : (z8 l a b c d s t u q).2.2 = q.2.2 := rfl
theorem z7_err (q) (h : q.2.2 ≠ 0) : (z7 l a b c d s t q).2.2 = q.2.2 := by unfold z7; rw [tgsZ_err h]; rfl
theorem z6_err (q) (h : q.2.2 ≠ 0) : (z6 l a b c d s q).2.2 = q.2.2 := by unfold z6; rw [txtZ_err h]; exact z7_err l a b c d _ _ ([], q.2.1, q.2.2) h
theorem z5_err (q) (h : q.2.2 ≠ 0) : (z5 l a b c d q).2.2 = q.2.2 := by unfold z5; rw [txtZ_err h]; exact z6_err l a b c d _ ([], q.2.1, q.2.2) h
theorem z4_err (q) (h : q.2.2 ≠ 0) : (z4 l a b c q).2.2 = q.2.2 := by unfold z4; rw [txtZ_err h]; exact z5_err l a b c _ ([], q.2.1, q.2.2) h
theorem z3_err (q) (h : q.2.2 ≠ 0) : (z3 l a b q).2.2 = q.2.2 := by unfold z3; rw [numZ_err h]; exact z4_err l a b _ (0, q.2.1, q.2.2) h
theorem z2_err (q) (h : q.2.2 ≠ 0) : (z2 l a q).2.2 = q.2.2 := by unfold z2; rw [numZ_err h]; exact z3_err l a _ (0, q.2.1, q.2.2) h
theorem z1_err (q) (h : q.2.2 ≠ 0) : (z1 l q).2.2 = q.2.2 := by unfold z1; rw [numZ_err h]; exact z2_err l _ (0, q.2.1, q.2.2) h
theorem g8_err (q) (h : q.2.2 ≠ 0) : (g8 l a b c d s t u q).2 = q.2.2 := by unfold g8 gE; rw [endK_err h]; simp [h]
theorem g7_err (q) (h : q.2.2 ≠ 0) : (g7 l a b c d s t q).2 = q.2.2 := by unfold g7; rw [g8_err _ _ _ _ _ _ _ _ _ (by rw [tgsK_err h]; exact h), tgsK_err h]
theorem g6_err (q) (h : q.2.2 ≠ 0) : (g6 l a b c d s q).2 = q.2.2 := by unfold g6; rw [g7_err _ _ _ _ _ _ _ _ (by rw [txtK_err h]; exact h), txtK_err h]
theorem g5_err (q) (h : q.2.2 ≠ 0) : (g5 l a b c d q).2 = q.2.2 := by unfold g5; rw [g6_err _ _ _ _ _ _ _ (by rw [txtK_err h]; exact h), txtK_err h]
theorem g4_err (q) (h : q.2.2 ≠ 0) : (g4 l a b c q).2 = q.2.2 := by unfold g4; rw [g5_err _ _ _ _ _ _ (by rw [txtK_err h]; exact h), txtK_err h]
theorem t8 (q) : endF l (z8 l a b c d s t u q) = endH (g8 l a b c d s t u q) := by
  obtain ⟨ts, k, e⟩ := q
  unfold z8 g8 gE endF endH
  dsimp only
  by_cases he : e = 0
  · subst he
    unfold endK failK
    by_cases hk : k < l.length
    · simp [hk]
    · by_cases hck : checkC ⟨a, b, c, (d : Int) - 1, s, t, u, ts⟩ = 0
      · simp [hk, hck]
      · simp [hk, hck]
  · rw [endK_err he]; simp [he]
theorem t7 (q) : endF l (z7 l a b c d s t q) = endH (g7 l a b c d s t q) := lk_step (z8 l a b c d s t _) (g8 l a b c d s t _) (z8_err l a b c d s t _) (g8_err l a b c d s t _) (t8 l a b c d s t _) (lk_tgs l _ _)
theorem t6 (q) : endF l (z6 l a b c d s q) = endH (g6 l a b c d s q) := lk_step (z7 l a b c d s _) (g7 l a b c d s _) (z7_err l a b c d s _) (g7_err l a b c d s _) (t7 l a b c d s _) (lk_txt l _ _)
theorem t5 (q) : endF l (z5 l a b c d q) = endH (g5 l a b c d q) := lk_step (z6 l a b c d _) (g6 l a b c d _) (z6_err l a b c d _) (g6_err l a b c d _) (t6 l a b c d _) (lk_txt l _ _)
theorem t4 (q) : endF l (z4 l a b c q) = endH (g4 l a b c q) := lk_step (z5 l a b c _) (g5 l a b c _) (z5_err l a b c _) (g5_err l a b c _) (t5 l a b c _) (lk_txt l _ _)
end
theorem rgetV_is {l : List Nat} (hb : ∀ c ∈ l, c < 256) : rgetV l = getV l := by
  show endF l (getZ l) = endH (getK l)
  unfold getZ getK z1 g1 z2 g2 z3 g3
  rw [lk_num hb, lk_num hb, lk_num hb, lk_num hb]
  exact t4 l _ _ _ _
end Go.Proofs.YtpkpnedcecjlbaaGreatDoor
