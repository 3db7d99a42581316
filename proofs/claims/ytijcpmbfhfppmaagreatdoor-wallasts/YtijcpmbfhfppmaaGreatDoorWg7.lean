/- Logs: what Append does, plainly; entries that stay where they lie. -/
import Derived.Test.YtijcpmbfhfppmaaGreatDoorWg6
import Derived.Test.YtijcpmbfhfppmaaGreatDoorWcl
namespace Go.Proofs.YtijcpmbfhfppmaaGreatDoor
open Go.ChangeShapes Go.WideShapes Go.ChangeAt Go.RowKit
set_option linter.unusedVariables false

def toN (e : EntI) : EntN := (e.1.toNat, e.2.1.toNat, e.2.2.1.toNat, e.2.2.2)
def addAll (c : Wc) (es : List EntI) : Wc := es.foldl (fun c e => addW c (toN e)) c
theorem recsE_all : ∀ {es : List EntI} {b : List Nat}, recsE es = .ok b → ∀ e ∈ es, toI (toN e) = e ∧ EOk (toN e)
  | [], _, _, e, he => by simp at he
  | x :: r, b, h, e, he => by
    rw [recsE_cons] at h
    cases hp : putE x with
    | error y => rw [hp] at h; cases h
    | ok c =>
      rw [hp] at h
      dsimp only at h
      cases hr : recsE r with
      | error y => rw [hr] at h; cases h
      | ok m =>
        rcases List.mem_cons.1 he with rfl | he
        · obtain ⟨k, t, i, h1, h2, h3, h4, h5, _, _⟩ := putE_ok hp
          obtain ⟨⟨a1, a2⟩, ⟨b1, b2⟩, ⟨c1, c2⟩, d1⟩ := h4
          obtain ⟨ek, et, ei, ed⟩ := e
          dsimp only at h1 h2 h3 h5 d1
          subst h1 h2 h3
          refine ⟨by simp [toI, toN], ⟨⟨?_, ?_⟩, ⟨?_, ?_⟩, ⟨?_, ?_⟩, ?_, h5⟩⟩ <;> simp only [toN, Int.toNat_natCast]
          · omega
          · omega
          · omega
          · omega
          · omega
          · omega
          · intro hk
            rcases d1 with d1 | d1
            · omega
            · exact List.eq_nil_of_length_eq_zero d1
        · exact recsE_all hr e he
theorem recsE_len : ∀ {es : List EntI} {b : List Nat}, recsE es = .ok b → b.length ≤ es.length * 2100
  | [], _, h => by cases h; simp
  | x :: r, b, h => by
    rw [recsE_cons] at h
    cases hp : putE x with
    | error y => rw [hp] at h; cases h
    | ok c =>
      rw [hp] at h
      dsimp only at h
      cases hr : recsE r with
      | error y => rw [hr] at h; cases h
      | ok m =>
        rw [hr] at h
        cases h
        have ih := recsE_len hr
        obtain ⟨k, t, i, _, _, _, _, _, _, h7⟩ := putE_ok hp
        rw [List.length_append, recB_length, List.length_cons]
        omega
/-- The content while entries are added: each fits where it comes. -/
theorem addAll_take (c : Wc) (es : List EntI) (j : Nat) (hj : j < es.length) : addAll c (es.take (j + 1)) = addW (addAll c (es.take j)) (toN es[j]) := by
  unfold addAll
  rw [List.take_succ_eq_append_getElem hj, List.foldl_append]
  rfl
theorem addAll_bi (c : Wc) (es : List EntI) : (addAll c es).bi = c.bi ∧ (addAll c es).bt = c.bt ∧ (addAll c es).ht = c.ht ∧ (addAll c es).hv = c.hv := by
  unfold addAll
  induction es generalizing c with
  | nil => exact ⟨rfl, rfl, rfl, rfl⟩
  | cons e r ih => exact ih (addW c (toN e))
theorem addAll_ok {c : Wc} (hc : WOk c) : ∀ (es : List EntI), (∀ e ∈ es, EOk (toN e)) → WOk (addAll c es) := by
  intro es
  unfold addAll
  induction es generalizing c with
  | nil => exact fun _ => hc
  | cons e r ih =>
    intro h
    refine ih (c := addW c (toN e)) ⟨hc.bi, hc.bt, hc.ht, hc.hv, fun x hx => ?_⟩ (fun x hx => h x (by simp [hx]))
    rcases List.mem_append.1 hx with hx | hx
    · exact hc.es x (List.mem_of_mem_take hx)
    · rw [List.mem_singleton.1 hx]
      exact h e (by simp)
theorem addAll_len (c : Wc) (es : List EntI) : (addAll c es).es.length ≤ c.es.length + es.length := by
  unfold addAll
  induction es generalizing c with
  | nil => exact Nat.le_refl _
  | cons e r ih =>
    have := ih (addW c (toN e))
    rw [List.foldl_cons, List.length_cons]
    have h2 : (addW c (toN e)).es.length ≤ c.es.length + 1 := by
      unfold addW
      rw [List.length_append, List.length_take]
      simp only [List.length_singleton]
      omega
    omega
theorem chain_at : ∀ (i : Int) (es : List EntI), chainI i es = true → ∀ j (hj : j < es.length), es[j].2.2.1 = i + 1 + j
  | _, [], _, j, hj => by simp at hj
  | i, e :: r, h, j, hj => by
    rw [chainI_cons, Bool.and_eq_true, beq_iff_eq] at h
    cases j with
    | zero => simp only [List.getElem_cons_zero]; omega
    | succ j =>
      have := chain_at _ r h.2 j (by simp only [List.length_cons] at hj; omega)
      simp only [List.getElem_cons_succ]
      rw [this, h.1]
      omega
/-- Each entry fits the content that those ahead of it left. -/
theorem fit_at {c : Wc} {es : List EntI} (h : fitAllW c es = true) (hp : ∀ e ∈ es, 1 ≤ e.2.2.1) : ∀ j (hj : j < es.length), c.bi < es[j].2.2.1.toNat ∧ es[j].2.2.1.toNat ≤ c.bi + (addAll c (es.take j)).es.length + 1 := by
  cases es with
  | nil => intro j hj; simp at hj
  | cons e r =>
    rw [fitAllW_cons, Bool.and_eq_true] at h
    obtain ⟨h1, h2⟩ := h
    unfold fitsW at h1
    rw [Bool.and_eq_true, decide_eq_true_eq, decide_eq_true_eq] at h1
    have hix : ∀ j (hj : j < (e :: r).length), (e :: r)[j].2.2.1 = e.2.2.1 + j := by
      intro j hj
      cases j with
      | zero => simp
      | succ j =>
        have := chain_at _ r h2 j (by simp only [List.length_cons] at hj; omega)
        simp only [List.getElem_cons_succ]
        rw [this]
        omega
    intro j
    induction j with
    | zero =>
      intro hj
      have := hix 0 hj
      simp only [List.getElem_cons_zero, List.take_zero] at this ⊢
      have h0 : (addAll c []).es = c.es := rfl
      rw [h0]
      omega
    | succ j ih =>
      intro hj
      have ih := ih (by omega)
      have h3 := hix (j + 1) hj
      have h4 := hix j (by omega)
      rw [addAll_take c (e :: r) j (by omega)]
      have hb := (addAll_bi c ((e :: r).take j)).1
      have h5 : (addW (addAll c ((e :: r).take j)) (toN (e :: r)[j])).es.length = (e :: r)[j].2.2.1.toNat - c.bi := by
        unfold addW
        rw [List.length_append, List.length_take, hb]
        simp only [List.length_singleton, toN]
        omega
      rw [h5]
      omega
/-- Append: the error, the disk, the content, the file's number. -/
def wAppend (room n : Nat) (c : Wc) (es : List EntI) (ss : Ds) : Nat × Ds × Wc × Nat :=
  match recsE es with
  | .error x => (x, ss, c, n)
  | .ok b =>
    if fitAllW c es = false then (2, ss, c, n)
    else if es.length = 0 then (0, ss, c, n)
    else if (wAddR room n c b ss).1 ≠ 0 then ((wAddR room n c b ss).1, (wAddR room n c b ss).2.1, c, (wAddR room n c b ss).2.2)
    else (0, (wAddR room n c b ss).2.1, addAll c es, (wAddR room n c b ss).2.2)
/-- Entries whose blocks are among those of P. -/
structure EntsIn (P : Nat → Prop) (w : World) (a : Option Addr) (es : List EntI) : Prop where
  at_ : EntsAt w a es
  row : ∀ b off, a = some ⟨b, off, none⟩ → 0 < es.length → P b
  dat : ∀ i (hi : i < es.length) b off dp dc n, a = some ⟨b, off, none⟩ → w.cell? ⟨b, off + i * 4 + 3, none⟩ = some (.slice dp n dc) → ∀ g o, dp = some ⟨g, o, none⟩ → 0 < (es[i]).2.2.2.length → P g
section
variable {Av : Nat → Prop} {base : Nat} {w w' : World} {L d M room N N' : Nat} {ss ss' : Ds} {c : Wc} {n : Nat} {ep : Option Addr} {ec : Nat} {hs : List (Option Addr × Nat)}
theorem EntsIn.asd {a : Option Addr} {es : List EntI} (h : EntsIn (fun g => g < base ∨ Av g) w a es) (ha : Asd Av base w w') : EntsIn (fun g => g < base ∨ Av g) w' a es := by
  have hk : ∀ g, (g < base ∨ Av g) → w'.heap[g]? = w.heap[g]? := fun g hg => hg.elim (ha.bel.block g) (ha.av g)
  refine ⟨⟨fun i hi => ?_⟩, h.row, fun i hi b off dp dc n e hc => ?_⟩
  · obtain ⟨b, off, dp, dc, h0, h1, h2, h3, h4, h5, h6⟩ := h.at_.cell i hi
    have hb := hk b (h.row b off h0 (by omega))
    refine ⟨b, off, dp, dc, h0, (World.cell?_of_block hb).trans h1, (World.cell?_of_block hb).trans h2, (World.cell?_of_block hb).trans h3, (World.cell?_of_block hb).trans h4, ⟨h5.lt, fun k hk2 => ?_⟩, h6⟩
    obtain ⟨g, o, e1, e2⟩ := h5.cell k hk2
    exact ⟨g, o, e1, (World.cell?_of_block (hk g (h.dat i hi b off dp dc _ h0 h4 g o e1 (by omega)))).trans e2⟩
  · have hb := hk b (h.row b off e (by omega))
    exact h.dat i hi b off dp dc n e ((World.cell?_of_block hb).symm.trans hc)
theorem EntsIn.ofLt {a : Option Addr} {es : List EntI} (h : EntsAt w a es) : EntsIn (fun g => g < w.heap.size) w a es := by
  have lt : ∀ b i v, w.cell? ⟨b, i, none⟩ = some v → b < w.heap.size := fun b i v hc => by
    by_cases hb : b < w.heap.size
    · exact hb
    · unfold World.cell? at hc
      simp only [Array.getElem?_eq_none (Nat.not_lt.1 hb)] at hc
      cases hc
  refine ⟨h, fun b off e h0 => ?_, fun i hi b off dp dc n e hc g o e1 h0 => ?_⟩
  · obtain ⟨b', off', dp, dc, q0, q1, _⟩ := h.cell 0 h0
    rw [e] at q0
    cases q0
    exact lt b _ _ q1
  · obtain ⟨b', off', dp', dc', q0, _, _, _, q4, q5, _⟩ := h.cell i hi
    rw [e] at q0
    cases q0
    rw [hc] at q4
    simp only [Option.some.injEq, Value.slice.injEq] at q4
    obtain ⟨rfl, _, _⟩ := q4
    obtain ⟨g', o', e2, e3⟩ := q5.cell 0 h0
    rw [e1] at e2
    cases e2
    exact lt g _ _ e3
theorem EntsIn.sub {P Q : Nat → Prop} {a : Option Addr} {es : List EntI} (h : EntsIn P w a es) (hs : ∀ g, P g → Q g) : EntsIn Q w a es :=
  ⟨h.at_, fun b off e h0 => hs b (h.row b off e h0), fun i hi b off dp dc n e hc g o e1 h0 => hs g (h.dat i hi b off dp dc n e hc g o e1 h0)⟩
/-- Blocks that lie aside are written, and new ones come. -/
theorem DAt.grow (h : DAt Av base w d M room N ss) (hs : ∀ g, g < w.heap.size → ¬ Av g → w'.heap[g]? = w.heap[g]?) (hz : w.heap.size ≤ w'.heap.size) : DAt (fun g => Av g ∨ (w.heap.size ≤ g ∧ g < w'.heap.size)) base w' d M room N ss := by
  obtain ⟨fs, h1, h2, h3⟩ := h.at_
  refine ⟨Nat.le_trans h.le hz, h.few, fs, h1.same (fun g hg hm => hs g hg (fun ha => ?_)), h2, fun g hg => ?_⟩
  · rcases hm with hm | hm
    · exact (h3 g ha).2.1 hm
    · exact (h3 g ha).2.2 hm
  · rcases hg with hg | ⟨g1, g2⟩
    · exact ⟨Nat.lt_of_lt_of_le (h3 g hg).1 hz, (h3 g hg).2⟩
    · refine ⟨g2, fun hm => ?_, fun hm => ?_⟩
      · have := (h1.mut_lt hm).2; omega
      · have := (h1.red_lt hm).2; omega
/-- A log's content is changed in place. -/
theorem WAt.added (z : WAt Av base w L d M room N ss c n ep ec hs) {V : World} (u : Below w.heap.size w V) {c' : Wc} {ep' : Option Addr} {ec' : Nat} {hs' : List (Option Addr × Nat)} (hC : CtAt w' L 96 [.pointer (some ⟨d, 0, none⟩)] [.int .i64 (n : Int)] c' ep' ec') (hO : OwnL base w' ep' ec' c'.es hs') (hg : Grew2 L (blk ep) V w') (hf : ∀ g, LFoot ep' hs' g → LFoot ep hs g ∨ w.heap.size ≤ g) (hok : WOk c') (hle : c'.es.length ≤ 1000000) :
    WAt Av base w' L d M room N ss c' n ep' ec' hs' ∧ Asd Av base w w' := by
  have hz : w.heap.size ≤ w'.heap.size := Nat.le_trans u.size hg.size
  have hs1 : ∀ g, g < w.heap.size → ¬ (Av g ∨ g = L ∨ LFoot ep hs g) → w'.heap[g]? = w.heap[g]? := fun g h1 h2 =>
    (hg.block g (Nat.lt_of_lt_of_le h1 u.size) (fun e => h2 (.inr (.inl e))) (fun e => h2 (.inr (.inr (.inl e))))).trans (u.block g h1)
  have hA : ∀ g, Av g → w'.heap[g]? = w.heap[g]? := fun g h1 =>
    (hg.block g (Nat.lt_of_lt_of_le (z.dk.lt (.inl h1)) u.size) (z.av g h1).1 (fun e => (z.av g h1).2 (.inl e))).trans (u.block g (z.dk.lt (.inl h1)))
  have hb : Below base w w' := by
    refine ⟨hg.os.trans u.os, hg.tape.trans u.tape, hg.output.trans u.output, hz, fun g h1 => ?_⟩
    refine (hg.block g (Nat.lt_of_lt_of_le h1 (Nat.le_trans z.dk.le u.size)) (fun e => by have := z.bl; omega) (fun e => ?_)).trans (u.block g (Nat.lt_of_lt_of_le h1 z.dk.le))
    have := (z.ow.foot g (.inl e)).1
    omega
  refine ⟨⟨(z.dk.grow hs1 hz).av (fun g h1 => ?_), hC, hO, z.bl, fun g h1 => ⟨(z.av g h1).1, fun h2 => ?_⟩, hok, z.nn, hle, let ⟨w0, q1, q2, q3⟩ := z.tz; ⟨w0, q1, q2, q3.trans hb⟩⟩, hA, hb⟩
  · rcases h1 with h1 | h1 | h1
    · exact .inl (.inl h1)
    · exact .inl (.inr (.inl h1))
    · rcases hf g h1 with q | q
      · exact .inl (.inr (.inr q))
      · exact .inr ⟨q, (hO.foot g h1).2.1⟩
  · rcases hf g h2 with q | q
    · exact (z.av g h1).2 q
    · have := z.dk.lt (.inl h1)
      omega
end
end Go.Proofs.YtijcpmbfhfppmaaGreatDoor
