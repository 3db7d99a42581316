/- Plain: a message by the document's scan. -/
import Derived.Test.YtcficfjgddjeeabRsc3
import Derived.Test.YtcficfjgddjeeabTmsg
namespace Go.Proofs.Ytcficfjgddjeeab

theorem oneS_step {l : List Nat} {lo hi k x v k' x' : Nat} (h : oneS l lo hi k x = (v, k', x')) : (x ≠ 0 ∧ x' = x) ∨ (x = 0 ∧ x' ≠ 0 ∧ oneE l lo hi k = .error x') ∨ (x = 0 ∧ x' = 0 ∧ oneE l lo hi k = .ok (v, k')) := by
  by_cases hx : x = 0
  · subst hx
    rcases oneS_one l lo hi k with ⟨y, hy, e1, e2⟩ | ⟨n, k2, e1, e2⟩
    · rw [e2] at h
      simp only [Prod.mk.injEq] at h
      obtain ⟨_, _, rfl⟩ := h
      exact .inr (.inl ⟨rfl, hy, e1⟩)
    · rw [e2] at h
      simp only [Prod.mk.injEq] at h
      obtain ⟨rfl, rfl, rfl⟩ := h
      exact .inr (.inr ⟨rfl, rfl, e1⟩)
  · rw [oneS, if_pos hx] at h
    simp only [Prod.mk.injEq] at h
    exact .inl ⟨hx, h.2.2.symm⟩
theorem numS_step {l : List Nat} {k x v k' x' : Nat} (h : numS l 0 k x = (v, k', x')) : (x ≠ 0 ∧ v = 0 ∧ x' = x) ∨ (x = 0 ∧ x' ≠ 0 ∧ v = 0 ∧ takeE l k = .error x') ∨ (x = 0 ∧ x' = 0 ∧ takeE l k = .ok (v, k')) := by
  by_cases hx : x = 0
  · subst hx
    cases ht : takeE l k with
    | error y =>
      simp only [numS, ht] at h
      have h' : (0, k, y) = (v, k', x') := h
      simp only [Prod.mk.injEq] at h'
      obtain ⟨rfl, _, rfl⟩ := h'
      exact .inr (.inl ⟨rfl, takeE_pos ht, rfl, rfl⟩)
    | ok p =>
      obtain ⟨n, k2⟩ := p
      simp only [numS, ht] at h
      have h' : (n, k2, 0) = (v, k', x') := h
      simp only [Prod.mk.injEq] at h'
      obtain ⟨rfl, rfl, rfl⟩ := h'
      exact .inr (.inr ⟨rfl, rfl, rfl⟩)
  · rw [numS, if_pos hx] at h
    simp only [Prod.mk.injEq] at h
    exact .inl ⟨hx, h.1.symm, h.2.2.symm⟩
theorem oneS_keep {l : List Nat} {lo hi k x v k' x' : Nat} (h : oneS l lo hi k x = (v, k', x')) (hx : x ≠ 0) : x' = x := by
  rw [oneS, if_pos hx] at h
  simp only [Prod.mk.injEq] at h
  exact h.2.2.symm
theorem numS_keep {l : List Nat} {m k x v k' x' : Nat} (h : numS l m k x = (v, k', x')) (hx : x ≠ 0) : x' = x := by
  rw [numS, if_pos hx] at h
  simp only [Prod.mk.injEq] at h
  exact h.2.2.symm
theorem numS_zero {l : List Nat} {m k x v k' x' : Nat} (h : numS l m k x = (v, k', x')) (hx : x ≠ 0) : v = 0 := by
  rw [numS, if_pos hx] at h
  simp only [Prod.mk.injEq] at h
  exact h.1.symm
theorem row_up {β : Type} (l : List Nat) (most k : Nat) (g : List Nat → Nat → Except Nat (β × Nat)) : (bindE (upE l most k) fun m k => bindE (dataE l m k) g) = bindE (rowE l most k) g := by
  unfold upE rowE
  cases takeE l k with
  | error x => rfl
  | ok p =>
    obtain ⟨n, k'⟩ := p
    by_cases h : most < n
    · simp only [bindE, if_pos h]
    · simp only [bindE, if_neg h]

/-- The fields ahead of the entries. -/
theorem msg_pre {l : List Nat} {kd k1 x1 fr k2 x2 to k3 x3 ok k4 x4 t k5 x5 ix k6 x6 lt k7 x7 cm k8 x8 hi k9 x9 ro k10 x10 n k11 x11 : Nat} (N1 : oneS l 1 7 0 0 = (kd, k1, x1)) (N2 : oneS l 1 9 k1 x1 = (fr, k2, x2)) (N3 : oneS l 1 9 k2 x2 = (to, k3, x3)) (N4 : oneS l 0 1 k3 x3 = (ok, k4, x4)) (N5 : numS l 0 k4 x4 = (t, k5, x5)) (N6 : numS l 0 k5 x5 = (ix, k6, x6)) (N7 : numS l 0 k6 x6 = (lt, k7, x7)) (N8 : numS l 0 k7 x7 = (cm, k8, x8)) (N9 : numS l 0 k8 x8 = (hi, k9, x9)) (N10 : numS l 0 k9 x9 = (ro, k10, x10)) (N11 : numS l 0 k10 x10 = (n, k11, x11)) :
    (x11 ≠ 0 ∧ n = 0 ∧ msgE l 0 = .error x11) ∨ (x11 = 0 ∧ takeE l k10 = .ok (n, k11) ∧ msgE l 0 = bindE (upE l 8 k10) fun n k => bindE (entsE l n k) fun es k => bindE (upE l 32768 k) fun m k => bindE (dataE l m k) fun d k => .ok (⟨kd, fr, to, ok, t, ix, lt, cm, hi, ro, es, d⟩, k)) := by
  rcases oneS_step N1 with ⟨hx, _⟩ | ⟨_, hx, e1⟩ | ⟨_, y1, e1⟩
  · exact absurd rfl hx
  · have z1 : x1 = x1 := rfl
    have z2 : x2 = x1 := (oneS_keep N2 (by rw [z1]; exact hx)).trans z1
    have z3 : x3 = x1 := (oneS_keep N3 (by rw [z2]; exact hx)).trans z2
    have z4 : x4 = x1 := (oneS_keep N4 (by rw [z3]; exact hx)).trans z3
    have z5 : x5 = x1 := (numS_keep N5 (by rw [z4]; exact hx)).trans z4
    have z6 : x6 = x1 := (numS_keep N6 (by rw [z5]; exact hx)).trans z5
    have z7 : x7 = x1 := (numS_keep N7 (by rw [z6]; exact hx)).trans z6
    have z8 : x8 = x1 := (numS_keep N8 (by rw [z7]; exact hx)).trans z7
    have z9 : x9 = x1 := (numS_keep N9 (by rw [z8]; exact hx)).trans z8
    have z10 : x10 = x1 := (numS_keep N10 (by rw [z9]; exact hx)).trans z9
    have z11 : x11 = x1 := (numS_keep N11 (by rw [z10]; exact hx)).trans z10
    rw [z11]
    exact .inl ⟨hx, numS_zero N11 (by rw [z10]; exact hx), by rw [msgE, bindE_err e1]⟩
  · skip
    rcases oneS_step N2 with ⟨hx, _⟩ | ⟨_, hx, e2⟩ | ⟨_, y2, e2⟩
    · exact absurd y1 hx
    · have z2 : x2 = x2 := rfl
      have z3 : x3 = x2 := (oneS_keep N3 (by rw [z2]; exact hx)).trans z2
      have z4 : x4 = x2 := (oneS_keep N4 (by rw [z3]; exact hx)).trans z3
      have z5 : x5 = x2 := (numS_keep N5 (by rw [z4]; exact hx)).trans z4
      have z6 : x6 = x2 := (numS_keep N6 (by rw [z5]; exact hx)).trans z5
      have z7 : x7 = x2 := (numS_keep N7 (by rw [z6]; exact hx)).trans z6
      have z8 : x8 = x2 := (numS_keep N8 (by rw [z7]; exact hx)).trans z7
      have z9 : x9 = x2 := (numS_keep N9 (by rw [z8]; exact hx)).trans z8
      have z10 : x10 = x2 := (numS_keep N10 (by rw [z9]; exact hx)).trans z9
      have z11 : x11 = x2 := (numS_keep N11 (by rw [z10]; exact hx)).trans z10
      rw [z11]
      exact .inl ⟨hx, numS_zero N11 (by rw [z10]; exact hx), by rw [msgE, bindE_ok e1, bindE_err e2]⟩
    · skip
      rcases oneS_step N3 with ⟨hx, _⟩ | ⟨_, hx, e3⟩ | ⟨_, y3, e3⟩
      · exact absurd y2 hx
      · have z3 : x3 = x3 := rfl
        have z4 : x4 = x3 := (oneS_keep N4 (by rw [z3]; exact hx)).trans z3
        have z5 : x5 = x3 := (numS_keep N5 (by rw [z4]; exact hx)).trans z4
        have z6 : x6 = x3 := (numS_keep N6 (by rw [z5]; exact hx)).trans z5
        have z7 : x7 = x3 := (numS_keep N7 (by rw [z6]; exact hx)).trans z6
        have z8 : x8 = x3 := (numS_keep N8 (by rw [z7]; exact hx)).trans z7
        have z9 : x9 = x3 := (numS_keep N9 (by rw [z8]; exact hx)).trans z8
        have z10 : x10 = x3 := (numS_keep N10 (by rw [z9]; exact hx)).trans z9
        have z11 : x11 = x3 := (numS_keep N11 (by rw [z10]; exact hx)).trans z10
        rw [z11]
        exact .inl ⟨hx, numS_zero N11 (by rw [z10]; exact hx), by rw [msgE, bindE_ok e1, bindE_ok e2, bindE_err e3]⟩
      · skip
        rcases oneS_step N4 with ⟨hx, _⟩ | ⟨_, hx, e4⟩ | ⟨_, y4, e4⟩
        · exact absurd y3 hx
        · have z4 : x4 = x4 := rfl
          have z5 : x5 = x4 := (numS_keep N5 (by rw [z4]; exact hx)).trans z4
          have z6 : x6 = x4 := (numS_keep N6 (by rw [z5]; exact hx)).trans z5
          have z7 : x7 = x4 := (numS_keep N7 (by rw [z6]; exact hx)).trans z6
          have z8 : x8 = x4 := (numS_keep N8 (by rw [z7]; exact hx)).trans z7
          have z9 : x9 = x4 := (numS_keep N9 (by rw [z8]; exact hx)).trans z8
          have z10 : x10 = x4 := (numS_keep N10 (by rw [z9]; exact hx)).trans z9
          have z11 : x11 = x4 := (numS_keep N11 (by rw [z10]; exact hx)).trans z10
          rw [z11]
          exact .inl ⟨hx, numS_zero N11 (by rw [z10]; exact hx), by rw [msgE, bindE_ok e1, bindE_ok e2, bindE_ok e3, bindE_err e4]⟩
        · skip
          rcases numS_step N5 with ⟨hx, _⟩ | ⟨_, hx, v5, e5⟩ | ⟨_, y5, e5⟩
          · exact absurd y4 hx
          · have z5 : x5 = x5 := rfl
            have z6 : x6 = x5 := (numS_keep N6 (by rw [z5]; exact hx)).trans z5
            have z7 : x7 = x5 := (numS_keep N7 (by rw [z6]; exact hx)).trans z6
            have z8 : x8 = x5 := (numS_keep N8 (by rw [z7]; exact hx)).trans z7
            have z9 : x9 = x5 := (numS_keep N9 (by rw [z8]; exact hx)).trans z8
            have z10 : x10 = x5 := (numS_keep N10 (by rw [z9]; exact hx)).trans z9
            have z11 : x11 = x5 := (numS_keep N11 (by rw [z10]; exact hx)).trans z10
            rw [z11]
            exact .inl ⟨hx, numS_zero N11 (by rw [z10]; exact hx), by rw [msgE, bindE_ok e1, bindE_ok e2, bindE_ok e3, bindE_ok e4, bindE_err e5]⟩
          · skip
            rcases numS_step N6 with ⟨hx, _⟩ | ⟨_, hx, v6, e6⟩ | ⟨_, y6, e6⟩
            · exact absurd y5 hx
            · have z6 : x6 = x6 := rfl
              have z7 : x7 = x6 := (numS_keep N7 (by rw [z6]; exact hx)).trans z6
              have z8 : x8 = x6 := (numS_keep N8 (by rw [z7]; exact hx)).trans z7
              have z9 : x9 = x6 := (numS_keep N9 (by rw [z8]; exact hx)).trans z8
              have z10 : x10 = x6 := (numS_keep N10 (by rw [z9]; exact hx)).trans z9
              have z11 : x11 = x6 := (numS_keep N11 (by rw [z10]; exact hx)).trans z10
              rw [z11]
              exact .inl ⟨hx, numS_zero N11 (by rw [z10]; exact hx), by rw [msgE, bindE_ok e1, bindE_ok e2, bindE_ok e3, bindE_ok e4, bindE_ok e5, bindE_err e6]⟩
            · skip
              rcases numS_step N7 with ⟨hx, _⟩ | ⟨_, hx, v7, e7⟩ | ⟨_, y7, e7⟩
              · exact absurd y6 hx
              · have z7 : x7 = x7 := rfl
                have z8 : x8 = x7 := (numS_keep N8 (by rw [z7]; exact hx)).trans z7
                have z9 : x9 = x7 := (numS_keep N9 (by rw [z8]; exact hx)).trans z8
                have z10 : x10 = x7 := (numS_keep N10 (by rw [z9]; exact hx)).trans z9
                have z11 : x11 = x7 := (numS_keep N11 (by rw [z10]; exact hx)).trans z10
                rw [z11]
                exact .inl ⟨hx, numS_zero N11 (by rw [z10]; exact hx), by rw [msgE, bindE_ok e1, bindE_ok e2, bindE_ok e3, bindE_ok e4, bindE_ok e5, bindE_ok e6, bindE_err e7]⟩
              · skip
                rcases numS_step N8 with ⟨hx, _⟩ | ⟨_, hx, v8, e8⟩ | ⟨_, y8, e8⟩
                · exact absurd y7 hx
                · have z8 : x8 = x8 := rfl
                  have z9 : x9 = x8 := (numS_keep N9 (by rw [z8]; exact hx)).trans z8
                  have z10 : x10 = x8 := (numS_keep N10 (by rw [z9]; exact hx)).trans z9
                  have z11 : x11 = x8 := (numS_keep N11 (by rw [z10]; exact hx)).trans z10
                  rw [z11]
                  exact .inl ⟨hx, numS_zero N11 (by rw [z10]; exact hx), by rw [msgE, bindE_ok e1, bindE_ok e2, bindE_ok e3, bindE_ok e4, bindE_ok e5, bindE_ok e6, bindE_ok e7, bindE_err e8]⟩
                · skip
                  rcases numS_step N9 with ⟨hx, _⟩ | ⟨_, hx, v9, e9⟩ | ⟨_, y9, e9⟩
                  · exact absurd y8 hx
                  · have z9 : x9 = x9 := rfl
                    have z10 : x10 = x9 := (numS_keep N10 (by rw [z9]; exact hx)).trans z9
                    have z11 : x11 = x9 := (numS_keep N11 (by rw [z10]; exact hx)).trans z10
                    rw [z11]
                    exact .inl ⟨hx, numS_zero N11 (by rw [z10]; exact hx), by rw [msgE, bindE_ok e1, bindE_ok e2, bindE_ok e3, bindE_ok e4, bindE_ok e5, bindE_ok e6, bindE_ok e7, bindE_ok e8, bindE_err e9]⟩
                  · skip
                    rcases numS_step N10 with ⟨hx, _⟩ | ⟨_, hx, v10, e10⟩ | ⟨_, y10, e10⟩
                    · exact absurd y9 hx
                    · have z10 : x10 = x10 := rfl
                      have z11 : x11 = x10 := (numS_keep N11 (by rw [z10]; exact hx)).trans z10
                      rw [z11]
                      exact .inl ⟨hx, numS_zero N11 (by rw [z10]; exact hx), by rw [msgE, bindE_ok e1, bindE_ok e2, bindE_ok e3, bindE_ok e4, bindE_ok e5, bindE_ok e6, bindE_ok e7, bindE_ok e8, bindE_ok e9, bindE_err e10]⟩
                    · skip
                      rcases numS_step N11 with ⟨hx, _⟩ | ⟨_, hx, v11, e11⟩ | ⟨_, y11, e11⟩
                      · exact absurd y10 hx
                      · have z11 : x11 = x11 := rfl
                        rw [z11]
                        exact .inl ⟨hx, v11, by rw [msgE, bindE_ok e1, bindE_ok e2, bindE_ok e3, bindE_ok e4, bindE_ok e5, bindE_ok e6, bindE_ok e7, bindE_ok e8, bindE_ok e9, bindE_ok e10, bindE_err (show upE l 8 k10 = .error x11 from bindE_err e11)]⟩
                      · skip
                        exact .inr ⟨y11, e11, by rw [msgE, bindE_ok e1, bindE_ok e2, bindE_ok e3, bindE_ok e4, bindE_ok e5, bindE_ok e6, bindE_ok e7, bindE_ok e8, bindE_ok e9, bindE_ok e10]⟩
end Go.Proofs.Ytcficfjgddjeeab
