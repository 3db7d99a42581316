/- Plain: the number at a place of bytes. -/
import Derived.Test.YtmnpokjccbafdaaNum
namespace Go.Proofs.Ytmnpokjccbafdaa

/-- What is read from a place on: the error, the number, the place behind; 's' bytes are read already, and 'n' of them. -/
def takeF (l : List Nat) : Nat → Nat → Nat → Nat → Nat × Nat × Nat
  | 0, _, _, k => (6, 0, k)
  | f + 1, s, n, k =>
    if l.length ≤ k then (3, 0, k)
    else if 128 ≤ l.getD k 0 then (if f = 0 then (6, 0, k + 1) else takeF l f (s + 1) (n + l.getD k 0 % 128 * 128 ^ s) (k + 1))
    else if l.getD k 0 = 0 ∧ 0 < s then (4, 0, k + 1)
    else if 1099511627776 < n + l.getD k 0 * 128 ^ s then (6, 0, k + 1)
    else (0, n + l.getD k 0 * 128 ^ s, k + 1)
def takeN (l : List Nat) (k : Nat) : Nat × Nat × Nat := takeF l 6 0 0 k
theorem takeF_short {l : List Nat} {k : Nat} (f s m : Nat) (hk : ¬ k < l.length) : takeF l (f + 1) s m k = (3, 0, k) := by
  rw [takeF, if_pos (by omega)]
theorem takeF_more {l : List Nat} {k x : Nat} (f s m : Nat) (hx : l.getD k 0 = x) (hk : k < l.length) (h : 128 ≤ x) (hf : f ≠ 0) : takeF l (f + 1) s m k = takeF l f (s + 1) (m + x % 128 * 128 ^ s) (k + 1) := by
  rw [takeF, if_neg (by omega), hx, if_pos h, if_neg hf]
theorem takeF_last {l : List Nat} {k x : Nat} (s m : Nat) (hx : l.getD k 0 = x) (hk : k < l.length) (h : 128 ≤ x) : takeF l (0 + 1) s m k = (6, 0, k + 1) := by
  rw [takeF, if_neg (by omega), hx, if_pos h, if_pos rfl]
theorem takeF_form {l : List Nat} {k x : Nat} (f s m : Nat) (hx : l.getD k 0 = x) (hk : k < l.length) (h : x = 0) (hs : 0 < s) : takeF l (f + 1) s m k = (4, 0, k + 1) := by
  rw [takeF, if_neg (by omega), hx, if_neg (by omega), if_pos ⟨h, hs⟩]
theorem takeF_big {l : List Nat} {k x : Nat} (f s m : Nat) (hx : l.getD k 0 = x) (hk : k < l.length) (h : ¬ 128 ≤ x) (h0 : ¬ (x = 0 ∧ 0 < s)) (hb : 1099511627776 < m + x * 128 ^ s) : takeF l (f + 1) s m k = (6, 0, k + 1) := by
  rw [takeF, if_neg (by omega), hx, if_neg h, if_neg h0, if_pos hb]
theorem takeF_ok {l : List Nat} {k x : Nat} (f s m : Nat) (hx : l.getD k 0 = x) (hk : k < l.length) (h : ¬ 128 ≤ x) (h0 : ¬ (x = 0 ∧ 0 < s)) (hb : ¬ 1099511627776 < m + x * 128 ^ s) : takeF l (f + 1) s m k = (0, m + x * 128 ^ s, k + 1) := by
  rw [takeF, if_neg (by omega), hx, if_neg h, if_neg h0, if_neg hb]
/-- The number at a place and the place behind it, or the error. -/
def takeE (l : List Nat) (k : Nat) : Except Nat (Nat × Nat) := if (takeN l k).1 = 0 then .ok ((takeN l k).2.1, (takeN l k).2.2) else .error (takeN l k).1
/-- A hard state from a place on. -/
def hardE (l : List Nat) (k : Nat) : Except Nat ((Nat × Nat) × Nat) :=
  match takeE l k with
  | .error x => .error x
  | .ok (t, k) =>
    match takeE l k with
    | .error x => .error x
    | .ok (v, k) => if 9 < v then .error 4 else .ok ((t, v), k)
/-- Nothing stands behind. -/
def wholeE {α : Type} (l : List Nat) (r : Except Nat (α × Nat)) : Except Nat α :=
  match r with
  | .error x => .error x
  | .ok (x, k) => if k < l.length then .error 4 else .ok x
theorem takeE_pos {l : List Nat} {k x : Nat} (h : takeE l k = .error x) : x ≠ 0 := by
  unfold takeE at h
  split at h
  · cases h
  · cases h; assumption
theorem hardE_pos {l : List Nat} {k x : Nat} (h : hardE l k = .error x) : x ≠ 0 := by
  unfold hardE at h
  split at h
  · next h1 => cases h; exact takeE_pos h1
  · split at h
    · next h1 => cases h; exact takeE_pos h1
    · split at h
      · cases h; decide
      · cases h
theorem wholeE_pos {α : Type} {l : List Nat} {r : Except Nat (α × Nat)} {x : Nat} (h : wholeE l r = .error x) (hr : ∀ y, r = .error y → y ≠ 0) : x ≠ 0 := by
  unfold wholeE at h
  split at h
  · cases h; exact hr _ rfl
  · split at h
    · cases h; decide
    · cases h
end Go.Proofs.Ytmnpokjccbafdaa
