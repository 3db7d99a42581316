/- Logs: what a row of records says. -/
import Derived.Test.YtijcpmbfhfppmaaGreatDoorWl6
namespace Go.Proofs.YtijcpmbfhfppmaaGreatDoor
open Go.ChangeShapes Go.WideShapes Go.ChangeAt Go.RowKit
set_option linter.unusedVariables false

/-- Rows of bytes as they lie in memory. -/
structure RowsAt (w : World) (sp : Option Addr) (rs : List (List Nat)) : Prop where
  cell : ∀ i (hi : i < rs.length), ∃ b off a k, sp = some ⟨b, off, none⟩ ∧ w.cell? ⟨b, off + i, none⟩ = some (.slice a rs[i].length k) ∧ BytesAt w a rs[i] ∧ rs[i].length ≤ k ∧ (a = none → k = 0)
theorem RowsAt.later {w w' : World} {sp : Option Addr} {rs : List (List Nat)} (h : RowsAt w sp rs) (hb : Below w.heap.size w w') : RowsAt w' sp rs :=
  ⟨fun i hi => by obtain ⟨b, off, a, k, e, h1, h2, h3, h4⟩ := h.cell i hi; exact ⟨b, off, a, k, e, cell_later hb h1, h2.later hb, h3, h4⟩⟩
theorem OwnS.rows {base : Nat} {w : World} {sp : Option Addr} {n c : Nat} {rs : List (List Nat)} (h : OwnS base w (.slice sp n c) rs) : RowsAt w sp rs := by
  obtain ⟨cs, hr, hd⟩ := h.ex
  refine ⟨fun i hi => ?_⟩
  obtain ⟨p, k, hc, ho⟩ := hd i hi
  rcases hr.2 with ⟨hv, h0⟩ | ⟨g, cap, cur, hv, hb, hg, hle, hmx, hsz, ht⟩
  · omega
  · simp only [Value.slice.injEq] at hv
    obtain ⟨rfl, _, rfl⟩ := hv
    have e : rs.getD i [] = rs[i] := by rw [List.getD_eq_getElem?_getD, List.getElem?_eq_getElem hi]; rfl
    rw [e] at hc ho
    refine ⟨g, 0, p, k, rfl, ?_, ho.bytes, ho.cap.1, ho.toBx.nil0⟩
    rw [Nat.zero_add, cell_of_row w g _ cur _ _ hg, ← Array.getElem?_toList]
    rw [← ht, List.getElem?_take] at hc
    split at hc
    · exact hc
    · cases hc
def foldR (c : Wc) : List (List Nat) → Option Wc
  | [] => some c
  | r :: rs => match takeR c r with
    | none => none
    | some c' => foldR c' rs
theorem foldR_cons (c : Wc) (r : List Nat) (rs : List (List Nat)) : foldR c (r :: rs) = (match takeR c r with
    | none => none
    | some c' => foldR c' rs) := rfl
theorem takeR_cons (c : Wc) (k : Nat) (b : List Nat) : takeR c (k :: b) = (if k = 1 then markR c b else if k = 2 then hardR c b else if k = 3 then entR c b else none) := rfl
/-- What records say; none, if one is none or does not fit, or no mark's comes first. -/
def contR : List (List Nat) → Option Wc
  | [] => none
  | r :: rs => if isMarkL r = true then foldR wc0 (r :: rs) else none
theorem foldR_app (a b : List (List Nat)) (c : Wc) : foldR c (a ++ b) = (match foldR c a with
    | none => none
    | some c' => foldR c' b) := by
  induction a generalizing c with
  | nil => rfl
  | cons r a ih =>
    rw [List.cons_append, foldR_cons, foldR_cons]
    cases takeR c r with
    | none => rfl
    | some c' => exact ih c'
theorem foldR_snoc (a : List (List Nat)) (r : List Nat) (c c' : Wc) (h : foldR c a = some c') : foldR c (a ++ [r]) = takeR c' r := by
  rw [foldR_app, h]
  dsimp only
  rw [foldR_cons]
  cases takeR c' r <;> rfl
theorem takeR_bi {c c' : Wc} {l : List Nat} (h : takeR c l = some c') (hl : ∀ x ∈ l, x < 256) (hb : c.bi ≤ 1099511627776) : c'.bi ≤ 1099511627776 ∧ c'.es.length ≤ c.es.length + 1 := by
  cases l with
  | nil => cases h
  | cons k b =>
    have hlb : ∀ x ∈ b, x < 256 := fun x hx => hl x (List.mem_cons_of_mem _ hx)
    rw [takeR_cons] at h
    split at h
    · unfold markR at h
      cases h1 : takeE b 0 with
      | error x => rw [h1] at h; cases h
      | ok r =>
        obtain ⟨i, k1⟩ := r
        rw [h1] at h
        dsimp only at h
        have hi := takeE_le h1 hlb
        cases h2 : takeE b k1 with
        | error x => rw [h2] at h; cases h
        | ok r2 =>
          obtain ⟨t, k2⟩ := r2
          rw [h2] at h
          dsimp only at h
          split at h
          · cases h
          · cases h
            exact ⟨hi.2, by simp⟩
    · split at h
      · unfold hardR at h
        cases h1 : wholeE b (hardE b 0) with
        | error x => rw [h1] at h; cases h
        | ok r =>
          rw [h1] at h
          cases h
          exact ⟨hb, by simp⟩
      · split at h
        · unfold entR at h
          cases h1 : wholeE b (entryE b 0) with
          | error x => rw [h1] at h; cases h
          | ok e =>
            rw [h1] at h
            dsimp only at h
            split at h
            · cases h
              refine ⟨hb, ?_⟩
              unfold addW
              simp only [List.length_append, List.length_take, List.length_cons, List.length_nil]
              omega
            · cases h
        · cases h
/-- How contentOf ends. -/
def ContEnd (w : World) (n : Nat) (r : Option Wc) (e : Ending) (w' : World) : Prop := Below w.heap.size w w' ∧ (match r with
  | none => e = .returned (.tuple #[.agg #[.int .i64 0, .int .i64 0, .int .i64 0, .int .i64 0, .slice none 0 0], .bool false])
  | some c => ∃ ep ec hs, e = .returned (.tuple #[.agg #[.int .i64 (c.bi : Int), .int .i64 (c.bt : Int), .int .i64 (c.ht : Int), .int .i64 (c.hv : Int), .slice ep c.es.length ec], .bool true]) ∧ OwnL w.heap.size w' ep ec c.es hs ∧ c.bi ≤ 1099511627776 ∧ c.es.length ≤ n)
theorem zero_row : (#[.int .i64 0, .int .i64 0, .int .i64 0, .int .i64 0, .slice none 0 0] : Array Value) = ctRow [] [] wc0 none 0 := rfl
/-- The result's cell, and the content that grows. -/
structure CtI (w : World) (n : Nat) (c : Wc) (ep : Option Addr) (ec : Nat) (hs : List (Option Addr × Nat)) (W : World) : Prop where
  res : W.heap[w.heap.size]? = some (.cells #[.int .i64 0, .int .i64 0, .int .i64 0, .int .i64 0, .slice none 0 0] 94 (0, 0))
  ct : CtAt W (w.heap.size + 1) 94 [] [] c ep ec
  ow : OwnL w.heap.size W ep ec c.es hs
  bel : Below w.heap.size w W
theorem CtI.later {w : World} {n : Nat} {c : Wc} {ep : Option Addr} {ec : Nat} {hs : List (Option Addr × Nat)} {W W' : World} (h : CtI w n c ep ec hs W) (u : Below W.heap.size W W') : CtI w n c ep ec hs W' :=
  ⟨later_block u h.res, h.ct.later u, h.ow.later u, h.bel.trans (u.mono h.bel.size)⟩
theorem CtI.took {w : World} {n : Nat} {c : Wc} {ep : Option Addr} {ec : Nat} {hs : List (Option Addr × Nat)} {W W' : World} (h : CtI w n c ep ec hs W) (g : Grew2 (w.heap.size + 1) (blk ep) W W') : W'.heap[w.heap.size]? = some (.cells #[.int .i64 0, .int .i64 0, .int .i64 0, .int .i64 0, .slice none 0 0] 94 (0, 0)) ∧ Below w.heap.size w W' := by
  have hep : ∀ x, blk ep = some x → w.heap.size ≤ x ∧ x ≠ w.heap.size := fun x hx => by
    obtain ⟨q1, _, cur, T, hc, hT⟩ := h.ow.foot x (.inl hx)
    refine ⟨q1, fun e => ?_⟩
    subst e
    rw [h.res] at hc
    simp only [Option.some.injEq, Obj.cells.injEq] at hc
    rw [← hc.2.1] at hT
    exact absurd hT (by decide)
  have hsz := h.bel.size
  refine ⟨(g.block _ (Array.getElem?_eq_some_iff.1 h.res).1 (by omega) (fun e => (hep _ e).2 rfl)).trans h.res, ⟨g.os.trans h.bel.os, g.tape.trans h.bel.tape, g.output.trans h.bel.output, Nat.le_trans hsz g.size, fun k hk => (g.block k (by omega) (by omega) (fun e => by have := (hep _ e).1; omega)).trans (h.bel.block k hk)⟩⟩
end Go.Proofs.YtijcpmbfhfppmaaGreatDoor
