/- Logs: the records of a file, plainly. -/
import Derived.Test.YtijcpmbfhfppmaaGreatDoorWg9
import Derived.Test.YtijcpmbfhfppmaaGreatDoorAll
namespace Go.Proofs.YtijcpmbfhfppmaaGreatDoor
open Go.ChangeShapes Go.WideShapes Go.ChangeAt Go.RowKit
set_option linter.unusedVariables false

/-- What the whole frames from a place on hold, and the place behind them. -/
def recsF (l : List Nat) : Nat → Nat → List (List Nat) × Nat
  | 0, k => ([], k)
  | f + 1, k => if nextE l k = 0 then (nextH l k :: (recsF l f (k + 8 + (nextH l k).length)).1, (recsF l f (k + 8 + (nextH l k).length)).2) else ([], k)
def recsA (l : List Nat) : List (List Nat) × Nat := recsF l l.length 0
theorem recsF_is {l : List Nat} {k : Nat} (he : 0 < nextE l k) : ∀ (hs : List (List Nat)) (f k0 : Nat), Steps l k0 hs k → hs.length ≤ f → recsF l f k0 = (hs, k)
  | [], 0, k0, h, _ => by rw [show k0 = k from h]; rfl
  | [], f + 1, k0, h, _ => by
    obtain rfl : k0 = k := h
    unfold recsF
    rw [if_neg (by omega)]
  | x :: r, 0, k0, h, hl => by simp at hl
  | x :: r, f + 1, k0, h, hl => by
    obtain ⟨h1, rfl, h3⟩ := h
    have := recsF_is he r f _ h3 (by simp only [List.length_cons] at hl; omega)
    unfold recsF
    rw [if_pos h1, this]
theorem recsA_is {l : List Nat} {k : Nat} {hs : List (List Nat)} (h : Steps l 0 hs k) (he : 0 < nextE l k) (hk : k ≤ l.length) : recsA l = (hs, k) := by
  have := h.length_le
  exact recsF_is he hs _ 0 h (by omega)
theorem takeR_ok {c c' : Wc} {l : List Nat} (h : takeR c l = some c') (hl : ∀ x ∈ l, x < 256) (hk : WOk c) : WOk c' := by
  cases l with
  | nil => cases h
  | cons k b =>
    have hlb : ∀ x ∈ b, x < 256 := fun x hx => hl x (List.mem_cons_of_mem _ hx)
    rw [takeR_cons] at h
    split at h
    · unfold markR at h
      cases h1 : takeE b 0 with
      | error x => rw [h1] at h; cases h
      | ok r =>
        obtain ⟨i, k1⟩ := r
        rw [h1] at h
        dsimp only at h
        have hi := takeE_le h1 hlb
        cases h2 : takeE b k1 with
        | error x => rw [h2] at h; cases h
        | ok r2 =>
          obtain ⟨t, k2⟩ := r2
          rw [h2] at h
          dsimp only at h
          have ht := takeE_le h2 hlb
          split at h
          · cases h
          · cases h
            exact ⟨hi.2, ht.2, hk.ht, hk.hv, fun e he => by simp at he⟩
    · split at h
      · unfold hardR at h
        cases h1 : wholeE b (hardE b 0) with
        | error x => rw [h1] at h; cases h
        | ok r =>
          obtain ⟨t, v⟩ := r
          rw [h1] at h
          cases h
          have hb : t ≤ 1099511627776 ∧ v ≤ 9 := by
            unfold wholeE hardE at h1
            cases q1 : takeE b 0 with
            | error x => rw [q1] at h1; cases h1
            | ok r =>
              obtain ⟨t1, k1⟩ := r
              rw [q1] at h1
              dsimp only at h1
              have b1 := takeE_le q1 hlb
              cases q2 : takeE b k1 with
              | error x => rw [q2] at h1; cases h1
              | ok r2 =>
                obtain ⟨v1, k2⟩ := r2
                rw [q2] at h1
                dsimp only at h1
                by_cases q3 : 9 < v1
                · rw [if_pos q3] at h1; cases h1
                · rw [if_neg q3] at h1
                  dsimp only at h1
                  split at h1
                  · cases h1
                  · cases h1
                    exact ⟨b1.2, by omega⟩
          exact ⟨hk.bi, hk.bt, hb.1, hb.2, hk.es⟩
      · split at h
        · unfold entR at h
          cases h1 : wholeE b (entryE b 0) with
          | error x => rw [h1] at h; cases h
          | ok e =>
            rw [h1] at h
            dsimp only at h
            split at h
            · cases h
              refine ⟨hk.bi, hk.bt, hk.ht, hk.hv, fun x hx => ?_⟩
              obtain ⟨kd, t, i, d⟩ := e
              rcases List.mem_append.1 hx with hx | hx
              · exact hk.es x (List.mem_of_mem_take hx)
              · rw [List.mem_singleton.1 hx]
                exact (entry_back hlb h1).2
            · cases h
        · cases h
theorem foldR_ok : ∀ {rs : List (List Nat)} {c c' : Wc}, foldR c rs = some c' → (∀ r ∈ rs, ∀ x ∈ r, x < 256) → WOk c → WOk c'
  | [], c, c', h, _, hk => by cases h; exact hk
  | r :: rs, c, c', h, hl, hk => by
    rw [foldR_cons] at h
    cases h1 : takeR c r with
    | none => rw [h1] at h; cases h
    | some c1 =>
      rw [h1] at h
      exact foldR_ok h (fun x hx => hl x (by simp [hx])) (takeR_ok h1 (hl r (by simp)) hk)
theorem contR_ok {rs : List (List Nat)} {c : Wc} (h : contR rs = some c) (hl : ∀ r ∈ rs, ∀ x ∈ r, x < 256) : WOk c := by
  cases rs with
  | nil => cases h
  | cons r rs =>
    change (if isMarkL r = true then foldR wc0 (r :: rs) else none) = some c at h
    split at h
    · exact foldR_ok h hl ⟨by simp [wc0], by simp [wc0], by simp [wc0], by simp [wc0], by simp [wc0]⟩
    · cases h
theorem steps_in {l : List Nat} : ∀ {hs : List (List Nat)} {k0 k : Nat}, Steps l k0 hs k → ∀ h ∈ hs, h.length ≤ l.length
  | [], _, _, _, h, hm => by simp at hm
  | x :: r, k0, k, h, y, hm => by
    obtain ⟨h1, rfl, h3⟩ := h
    rcases List.mem_cons.1 hm with rfl | hm
    · have := (nextE_zero h1).2.2; omega
    · exact steps_in h3 y hm
/-- A log is taken from its file: the error, the disk, the content. -/
def wLoad (n : Nat) (c : Wc) (ss : Ds) : Nat × Ds × Wc × Nat :=
  if readE (walNm n) ss ≠ 0 then (8, ss, c, n)
  else match contR (recsA (nowL (walNm n) ss)).1 with
    | none => (4, ss, c, n)
    | some c2 =>
      if (dCut (walNm n) ((recsA (nowL (walNm n) ss)).2 : Int) ss).1 ≠ 0 then ((dCut (walNm n) ((recsA (nowL (walNm n) ss)).2 : Int) ss).1, (dCut (walNm n) ((recsA (nowL (walNm n) ss)).2 : Int) ss).2, c, n)
      else ((dSync (walNm n) (dCut (walNm n) ((recsA (nowL (walNm n) ss)).2 : Int) ss).2).1, (dSync (walNm n) (dCut (walNm n) ((recsA (nowL (walNm n) ss)).2 : Int) ss).2).2, c2, n)
end Go.Proofs.YtijcpmbfhfppmaaGreatDoor
