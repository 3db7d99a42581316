/- Plain: a message from a place on. -/
import Derived.Test.YtijcpmbfhfppmaaGreatDoorTent
namespace Go.Proofs.YtijcpmbfhfppmaaGreatDoor

/-- An entry in numbers: kind, term, index, data. -/
abbrev EntN := Nat × Nat × Nat × List Nat
def bindE {α β : Type} (r : Except Nat (α × Nat)) (f : α → Nat → Except Nat (β × Nat)) : Except Nat (β × Nat) :=
  match r with
  | .error x => .error x
  | .ok (a, k) => f a k
def entsE (l : List Nat) : Nat → Nat → Except Nat (List EntN × Nat)
  | 0, k => .ok ([], k)
  | n + 1, k => bindE (entryE l k) fun e k => bindE (entsE l n k) fun es k => .ok (e :: es, k)
def upE (l : List Nat) (most k : Nat) : Except Nat (Nat × Nat) := bindE (takeE l k) fun n k => if most < n then .error 6 else .ok (n, k)
structure MsgN where
  kd : Nat
  fr : Nat
  to : Nat
  ok : Nat
  t : Nat
  ix : Nat
  lt : Nat
  cm : Nat
  hi : Nat
  ro : Nat
  es : List EntN
  d : List Nat
/-- A message from a place on. -/
def msgE (l : List Nat) (k : Nat) : Except Nat (MsgN × Nat) :=
  bindE (oneE l 1 7 k) fun kd k => bindE (oneE l 1 9 k) fun fr k => bindE (oneE l 1 9 k) fun to k => bindE (oneE l 0 1 k) fun ok k =>
  bindE (takeE l k) fun t k => bindE (takeE l k) fun ix k => bindE (takeE l k) fun lt k => bindE (takeE l k) fun cm k => bindE (takeE l k) fun hi k => bindE (takeE l k) fun ro k =>
  bindE (upE l 8 k) fun n k => bindE (entsE l n k) fun es k => bindE (upE l 32768 k) fun m k => bindE (dataE l m k) fun d k => .ok (⟨kd, fr, to, ok, t, ix, lt, cm, hi, ro, es, d⟩, k)
theorem bindE_err {α β : Type} {r : Except Nat (α × Nat)} {f : α → Nat → Except Nat (β × Nat)} {x : Nat} (h : r = .error x) : bindE r f = .error x := by rw [h]; rfl
theorem bindE_ok {α β : Type} {r : Except Nat (α × Nat)} {f : α → Nat → Except Nat (β × Nat)} {a : α} {k : Nat} (h : r = .ok (a, k)) : bindE r f = f a k := by rw [h]; rfl
theorem bindE_pos {α β : Type} {r : Except Nat (α × Nat)} {f : α → Nat → Except Nat (β × Nat)} {x : Nat} (h : bindE r f = .error x) (h1 : ∀ y, r = .error y → y ≠ 0) (h2 : ∀ a k y, f a k = .error y → y ≠ 0) : x ≠ 0 := by
  unfold bindE at h
  split at h
  · cases h; exact h1 _ rfl
  · exact h2 _ _ _ h
theorem upE_pos {l : List Nat} {most k x : Nat} (h : upE l most k = .error x) : x ≠ 0 :=
  bindE_pos h (fun _ h => takeE_pos h) (fun a k y h => by split at h <;> cases h; decide)
theorem upE_le {l : List Nat} {most k n k2 : Nat} (h : upE l most k = .ok (n, k2)) : n ≤ most ∧ takeE l k = .ok (n, k2) := by
  cases ht : takeE l k with
  | error x => rw [upE, bindE_err ht] at h; cases h
  | ok p =>
    obtain ⟨n', k'⟩ := p
    rw [upE, bindE_ok ht] at h
    split at h
    · cases h
    · simp only [Except.ok.injEq, Prod.mk.injEq] at h
      obtain ⟨rfl, rfl⟩ := h
      exact ⟨by omega, rfl⟩
theorem entsE_pos {l : List Nat} : ∀ {n k x : Nat}, entsE l n k = .error x → x ≠ 0
  | 0, _, _, h => by cases h
  | _ + 1, _, _, h => bindE_pos h (fun _ h => entryE_pos h) (fun _ _ _ h => bindE_pos h (fun _ h => entsE_pos h) (fun _ _ _ h => by cases h))
theorem msgE_pos {l : List Nat} {k x : Nat} (h : msgE l k = .error x) : x ≠ 0 :=
  bindE_pos h (fun _ h => oneE_pos h) fun _ _ _ h => bindE_pos h (fun _ h => oneE_pos h) fun _ _ _ h => bindE_pos h (fun _ h => oneE_pos h) fun _ _ _ h => bindE_pos h (fun _ h => oneE_pos h) fun _ _ _ h =>
  bindE_pos h (fun _ h => takeE_pos h) fun _ _ _ h => bindE_pos h (fun _ h => takeE_pos h) fun _ _ _ h => bindE_pos h (fun _ h => takeE_pos h) fun _ _ _ h => bindE_pos h (fun _ h => takeE_pos h) fun _ _ _ h => bindE_pos h (fun _ h => takeE_pos h) fun _ _ _ h => bindE_pos h (fun _ h => takeE_pos h) fun _ _ _ h =>
  bindE_pos h (fun _ h => upE_pos h) fun _ _ _ h => bindE_pos h (fun _ h => entsE_pos h) fun _ _ _ h => bindE_pos h (fun _ h => upE_pos h) fun _ _ _ h => bindE_pos h (fun _ h => dataE_pos h) fun _ _ _ h => by cases h
/-- One entry more at the end. -/
theorem entsE_step {l : List Nat} : ∀ {n k k1 : Nat} {es : List EntN}, entsE l n k = .ok (es, k1) → ∀ (j : Nat), entsE l (n + j) k = bindE (entsE l j k1) fun es2 k2 => .ok (es ++ es2, k2)
  | 0, k, k1, es, h, j => by
    simp only [entsE, Except.ok.injEq, Prod.mk.injEq] at h
    obtain ⟨rfl, rfl⟩ := h
    rw [Nat.zero_add]
    cases entsE l j k <;> rfl
  | n + 1, k, k1, es, h, j => by
    rw [entsE] at h
    rw [show n + 1 + j = (n + j) + 1 by omega, entsE]
    cases h1 : entryE l k with
    | error x => rw [bindE_err h1] at h; cases h
    | ok p =>
      obtain ⟨e, k'⟩ := p
      rw [bindE_ok h1] at h
      rw [bindE_ok rfl]
      cases h2 : entsE l n k' with
      | error x => rw [bindE_err h2] at h; cases h
      | ok q =>
        obtain ⟨es', k''⟩ := q
        rw [bindE_ok h2] at h
        simp only [Except.ok.injEq, Prod.mk.injEq] at h
        obtain ⟨rfl, rfl⟩ := h
        rw [entsE_step h2 j]
        cases entsE l j k'' <;> rfl
theorem bindE_inv {α β : Type} {r : Except Nat (α × Nat)} {f : α → Nat → Except Nat (β × Nat)} {z : β × Nat} (h : bindE r f = .ok z) : ∃ a k, r = .ok (a, k) ∧ f a k = .ok z := by
  unfold bindE at h
  split at h
  · cases h
  · exact ⟨_, _, rfl, h⟩
theorem entsE_length {l : List Nat} : ∀ {n k k' : Nat} {es : List EntN}, entsE l n k = .ok (es, k') → es.length = n
  | 0, _, _, _, h => by
    simp only [entsE, Except.ok.injEq, Prod.mk.injEq] at h
    rw [← h.1]; rfl
  | n + 1, _, _, _, h => by
    rw [entsE] at h
    obtain ⟨e, k1, _, h⟩ := bindE_inv h
    obtain ⟨es', k2, h2, h⟩ := bindE_inv h
    simp only [Except.ok.injEq, Prod.mk.injEq] at h
    rw [← h.1, List.length_cons, entsE_length h2]
/-- A message that is read: its pieces. -/
theorem msgE_inv {l : List Nat} {k k' : Nat} {m : MsgN} (h : msgE l k = .ok (m, k')) : ∃ k1 k2 k3 k4 k5 k6 k7 k8 k9 k10 n k11 k12 q k13,
    oneE l 1 7 k = .ok (m.kd, k1) ∧ oneE l 1 9 k1 = .ok (m.fr, k2) ∧ oneE l 1 9 k2 = .ok (m.to, k3) ∧ oneE l 0 1 k3 = .ok (m.ok, k4) ∧ takeE l k4 = .ok (m.t, k5) ∧ takeE l k5 = .ok (m.ix, k6) ∧ takeE l k6 = .ok (m.lt, k7) ∧ takeE l k7 = .ok (m.cm, k8) ∧ takeE l k8 = .ok (m.hi, k9) ∧ takeE l k9 = .ok (m.ro, k10) ∧
    upE l 8 k10 = .ok (n, k11) ∧ entsE l n k11 = .ok (m.es, k12) ∧ upE l 32768 k12 = .ok (q, k13) ∧ dataE l q k13 = .ok (m.d, k') := by
  obtain ⟨a1, k1, h1, h⟩ := bindE_inv h
  obtain ⟨a2, k2, h2, h⟩ := bindE_inv h
  obtain ⟨a3, k3, h3, h⟩ := bindE_inv h
  obtain ⟨a4, k4, h4, h⟩ := bindE_inv h
  obtain ⟨a5, k5, h5, h⟩ := bindE_inv h
  obtain ⟨a6, k6, h6, h⟩ := bindE_inv h
  obtain ⟨a7, k7, h7, h⟩ := bindE_inv h
  obtain ⟨a8, k8, h8, h⟩ := bindE_inv h
  obtain ⟨a9, k9, h9, h⟩ := bindE_inv h
  obtain ⟨a10, k10, h10, h⟩ := bindE_inv h
  obtain ⟨n, k11, h11, h⟩ := bindE_inv h
  obtain ⟨es, k12, h12, h⟩ := bindE_inv h
  obtain ⟨q, k13, h13, h⟩ := bindE_inv h
  obtain ⟨d, k14, h14, h⟩ := bindE_inv h
  simp only [Except.ok.injEq, Prod.mk.injEq] at h
  obtain ⟨rfl, rfl⟩ := h
  exact ⟨k1, k2, k3, k4, k5, k6, k7, k8, k9, k10, n, k11, k12, q, k13, h1, h2, h3, h4, h5, h6, h7, h8, h9, h10, h11, h12, h13, h14⟩
theorem msg_few {l : List Nat} {m : MsgN} (h : wholeE l (msgE l 0) = .ok m) : m.es.length ≤ 8 := by
  obtain ⟨k, h1, _⟩ := wholeE_ok h
  obtain ⟨_, _, _, _, _, _, _, _, _, _, n, _, _, _, _, _, _, _, _, _, _, _, _, _, _, h11, h12, _, _⟩ := msgE_inv h1
  rw [entsE_length h12]
  exact (upE_le h11).1
end Go.Proofs.YtijcpmbfhfppmaaGreatDoor
