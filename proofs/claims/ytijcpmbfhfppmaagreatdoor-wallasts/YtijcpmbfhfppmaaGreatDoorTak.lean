/- Plain: the number at a place of bytes. -/
import Derived.Test.YtijcpmbfhfppmaaGreatDoorNum
namespace Go.Proofs.YtijcpmbfhfppmaaGreatDoor

/-- What is read from a place on: the error, the number, the place behind; 's' bytes are read already, and 'n' of them. -/
def takeF (l : List Nat) : Nat → Nat → Nat → Nat → Nat × Nat × Nat
  | 0, _, _, k => (6, 0, k)
  | f + 1, s, n, k =>
    if l.length ≤ k then (3, 0, k)
    else if 128 ≤ l.getD k 0 then (if f = 0 then (6, 0, k + 1) else takeF l f (s + 1) (n + l.getD k 0 % 128 * 128 ^ s) (k + 1))
    else if l.getD k 0 = 0 ∧ 0 < s then (4, 0, k + 1)
    else if 1099511627776 < n + l.getD k 0 * 128 ^ s then (6, 0, k + 1)
    else (0, n + l.getD k 0 * 128 ^ s, k + 1)
def takeN (l : List Nat) (k : Nat) : Nat × Nat × Nat := takeF l 6 0 0 k
theorem takeF_short {l : List Nat} {k : Nat} (f s m : Nat) (hk : ¬ k < l.length) : takeF l (f + 1) s m k = (3, 0, k) := by
  rw [takeF, if_pos (by omega)]
theorem takeF_more {l : List Nat} {k x : Nat} (f s m : Nat) (hx : l.getD k 0 = x) (hk : k < l.length) (h : 128 ≤ x) (hf : f ≠ 0) : takeF l (f + 1) s m k = takeF l f (s + 1) (m + x % 128 * 128 ^ s) (k + 1) := by
  rw [takeF, if_neg (by omega), hx, if_pos h, if_neg hf]
theorem takeF_last {l : List Nat} {k x : Nat} (s m : Nat) (hx : l.getD k 0 = x) (hk : k < l.length) (h : 128 ≤ x) : takeF l (0 + 1) s m k = (6, 0, k + 1) := by
  rw [takeF, if_neg (by omega), hx, if_pos h, if_pos rfl]
theorem takeF_form {l : List Nat} {k x : Nat} (f s m : Nat) (hx : l.getD k 0 = x) (hk : k < l.length) (h : x = 0) (hs : 0 < s) : takeF l (f + 1) s m k = (4, 0, k + 1) := by
  rw [takeF, if_neg (by omega), hx, if_neg (by omega), if_pos ⟨h, hs⟩]
theorem takeF_big {l : List Nat} {k x : Nat} (f s m : Nat) (hx : l.getD k 0 = x) (hk : k < l.length) (h : ¬ 128 ≤ x) (h0 : ¬ (x = 0 ∧ 0 < s)) (hb : 1099511627776 < m + x * 128 ^ s) : takeF l (f + 1) s m k = (6, 0, k + 1) := by
  rw [takeF, if_neg (by omega), hx, if_neg h, if_neg h0, if_pos hb]
theorem takeF_ok {l : List Nat} {k x : Nat} (f s m : Nat) (hx : l.getD k 0 = x) (hk : k < l.length) (h : ¬ 128 ≤ x) (h0 : ¬ (x = 0 ∧ 0 < s)) (hb : ¬ 1099511627776 < m + x * 128 ^ s) : takeF l (f + 1) s m k = (0, m + x * 128 ^ s, k + 1) := by
  rw [takeF, if_neg (by omega), hx, if_neg h, if_neg h0, if_neg hb]
/-- The number at a place and the place behind it, or the error. -/
def takeE (l : List Nat) (k : Nat) : Except Nat (Nat × Nat) := if (takeN l k).1 = 0 then .ok ((takeN l k).2.1, (takeN l k).2.2) else .error (takeN l k).1
/-- A hard state from a place on. -/
def hardE (l : List Nat) (k : Nat) : Except Nat ((Nat × Nat) × Nat) :=
  match takeE l k with
  | .error x => .error x
  | .ok (t, k) =>
    match takeE l k with
    | .error x => .error x
    | .ok (v, k) => if 9 < v then .error 4 else .ok ((t, v), k)
/-- Nothing stands behind. -/
def wholeE {α : Type} (l : List Nat) (r : Except Nat (α × Nat)) : Except Nat α :=
  match r with
  | .error x => .error x
  | .ok (x, k) => if k < l.length then .error 4 else .ok x
theorem takeE_pos {l : List Nat} {k x : Nat} (h : takeE l k = .error x) : x ≠ 0 := by
  unfold takeE at h
  split at h
  · cases h
  · cases h; assumption
theorem hardE_pos {l : List Nat} {k x : Nat} (h : hardE l k = .error x) : x ≠ 0 := by
  unfold hardE at h
  split at h
  · next h1 => cases h; exact takeE_pos h1
  · split at h
    · next h1 => cases h; exact takeE_pos h1
    · split at h
      · cases h; decide
      · cases h
theorem wholeE_pos {α : Type} {l : List Nat} {r : Except Nat (α × Nat)} {x : Nat} (h : wholeE l r = .error x) (hr : ∀ y, r = .error y → y ≠ 0) : x ≠ 0 := by
  unfold wholeE at h
  split at h
  · cases h; exact hr _ rfl
  · split at h
    · cases h; decide
    · cases h
/-- A byte from a to b. -/
def oneE (l : List Nat) (a b k : Nat) : Except Nat (Nat × Nat) := if k < l.length then (if a ≤ l.getD k 0 ∧ l.getD k 0 ≤ b then .ok (l.getD k 0, k + 1) else .error 4) else .error 3
def posE (l : List Nat) (k : Nat) : Except Nat (Nat × Nat) :=
  match takeE l k with
  | .error x => .error x
  | .ok (n, k) => if n = 0 then .error 4 else .ok (n, k)
def sizeE (l : List Nat) (kind k : Nat) : Except Nat (Nat × Nat) :=
  match takeE l k with
  | .error x => .error x
  | .ok (n, k) => if kind = 1 ∧ 0 < n then .error 4 else if 2048 < n then .error 6 else .ok (n, k)
def dataE (l : List Nat) (n k : Nat) : Except Nat (List Nat × Nat) := if l.length - k < n then .error 3 else .ok ((l.drop k).take n, k + n)
/-- An entry from a place on. -/
def entryE (l : List Nat) (k : Nat) : Except Nat ((Nat × Nat × Nat × List Nat) × Nat) :=
  match oneE l 1 3 k with
  | .error x => .error x
  | .ok (kd, k) =>
    match posE l k with
    | .error x => .error x
    | .ok (t, k) =>
      match posE l k with
      | .error x => .error x
      | .ok (i, k) =>
        match sizeE l kd k with
        | .error x => .error x
        | .ok (n, k) =>
          match dataE l n k with
          | .error x => .error x
          | .ok (d, k) => .ok ((kd, t, i, d), k)
theorem oneE_pos {l : List Nat} {a b k x : Nat} (h : oneE l a b k = .error x) : x ≠ 0 := by
  unfold oneE at h
  split at h
  · split at h
    · cases h
    · cases h; decide
  · cases h; decide
theorem posE_pos {l : List Nat} {k x : Nat} (h : posE l k = .error x) : x ≠ 0 := by
  unfold posE at h
  split at h
  · next h1 => cases h; exact takeE_pos h1
  · split at h
    · cases h; decide
    · cases h
theorem sizeE_pos {l : List Nat} {kd k x : Nat} (h : sizeE l kd k = .error x) : x ≠ 0 := by
  unfold sizeE at h
  split at h
  · next h1 => cases h; exact takeE_pos h1
  · split at h
    · cases h; decide
    · split at h
      · cases h; decide
      · cases h
theorem dataE_pos {l : List Nat} {n k x : Nat} (h : dataE l n k = .error x) : x ≠ 0 := by
  unfold dataE at h
  split at h
  · cases h; decide
  · cases h
theorem entryE_pos {l : List Nat} {k x : Nat} (h : entryE l k = .error x) : x ≠ 0 := by
  unfold entryE at h
  split at h
  · next h1 => cases h; exact oneE_pos h1
  · split at h
    · next h1 => cases h; exact posE_pos h1
    · split at h
      · next h1 => cases h; exact posE_pos h1
      · split at h
        · next h1 => cases h; exact sizeE_pos h1
        · split at h
          · next h1 => cases h; exact dataE_pos h1
          · cases h
/-- Bytes with their length ahead. -/
def rowE (l : List Nat) (most k : Nat) : Except Nat (List Nat × Nat) :=
  match takeE l k with
  | .error x => .error x
  | .ok (n, k) => if most < n then .error 6 else dataE l n k
theorem rowE_pos {l : List Nat} {most k x : Nat} (h : rowE l most k = .error x) : x ≠ 0 := by
  unfold rowE at h
  split at h
  · next h1 => cases h; exact takeE_pos h1
  · split at h
    · cases h; decide
    · exact dataE_pos h
end Go.Proofs.YtijcpmbfhfppmaaGreatDoor
