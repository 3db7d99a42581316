/- The document's heads: Parse, where the head ends. -/
import Derived.Test.YtcmiappiocfbiaaGreatDoorB24
import Derived.Test.YtcmiappiocfbiaaGreatDoorB14
namespace Go.Proofs.YtcmiappiocfbiaaGreatDoor
open Go.ChangeShapes Go.WideShapes Go.ChangeAt Go.RowKit
set_option linter.unusedVariables false

theorem of_byte (x : Nat) (c : UInt8) (hx : x < 256) : (c == UInt8.ofNat x) = decide ((x : Int) = (c.toNat : Int)) := by
  rw [Bool.eq_iff_iff, beq_iff_eq, decide_eq_true_eq, ← UInt8.toNat_inj, UInt8.toNat_ofNat']
  have : x % 2 ^ 8 = x := Nat.mod_eq_of_lt hx
  rw [this]
  omega
def sep4 : Tx := crlf ++ crlf
theorem sep4_is (l : List Nat) (hl : ∀ c ∈ l, c < 256) (i : Nat) (h1 : i + 4 ≤ l.length) (h2 : i + 4 ≤ 2048) : sepAt sep4 ((txN l).take 2048) i = (decide (((l.getD i 0 : Nat) : Int) = 13) && decide (((l.getD (i + 1) 0 : Nat) : Int) = 10) && decide (((l.getD (i + 2) 0 : Nat) : Int) = 13) && decide (((l.getD (i + 3) 0 : Nat) : Int) = 10)) := by
  have hlen : ((txN l).take 2048).length = min 2048 l.length := by rw [List.length_take, txN_len]
  have g : ∀ k (hk : k < ((txN l).take 2048).length), ((txN l).take 2048)[k] = UInt8.ofNat (l.getD k 0) := fun k hk => by
    have hk2 : k < l.length := by omega
    rw [List.getElem_take]
    unfold txN
    rw [List.getElem_map, List.getD_eq_getElem?_getD, List.getElem?_eq_getElem hk2]
    rfl
  have lt : ∀ k, l.getD k 0 < 256 := fun k => by
    rw [List.getD_eq_getElem?_getD]
    cases hh : l[k]? with
    | none => simp
    | some v => exact hl v (List.mem_of_getElem? hh)
  unfold sepAt
  rw [List.drop_eq_getElem_cons (by omega), List.drop_eq_getElem_cons (by omega), List.drop_eq_getElem_cons (by omega), List.drop_eq_getElem_cons (by omega), g i, g (i + 1), g (i + 1 + 1), g (i + 1 + 1 + 1)]
  simp only [sep4, crlf, List.cons_append, List.nil_append, List.isPrefixOf, Bool.and_true]
  rw [of_byte _ 13 (lt _), of_byte _ 10 (lt _), of_byte _ 13 (lt _), of_byte _ 10 (lt _)]
  simp only [Bool.and_assoc]
  rfl
theorem sep4_short (l : List Nat) (i : Nat) (h : ¬ (i + 4 ≤ l.length ∧ i + 4 ≤ 2048)) : sepAt sep4 ((txN l).take 2048) i = false := by
  cases hs : sepAt sep4 ((txN l).take 2048) i with
  | false => rfl
  | true =>
    rcases sepAt_len hs with h1 | h1
    · cases h1
    · rw [List.length_take, txN_len] at h1
      have : sep4.length = 4 := rfl
      omega
theorem four_cells {w : World} {a : Option Addr} {l : List Nat} (hb : BytesAt w a l) (i : Nat) (h : i + 4 ≤ l.length) : ∃ b off, a = some ⟨b, off, none⟩ ∧ w.cell? ⟨b, off + i, none⟩ = some (.int .u8 ((l.getD i 0 : Nat) : Int)) ∧ w.cell? ⟨b, off + (i + 1), none⟩ = some (.int .u8 ((l.getD (i + 1) 0 : Nat) : Int)) ∧ w.cell? ⟨b, off + (i + 2), none⟩ = some (.int .u8 ((l.getD (i + 2) 0 : Nat) : Int)) ∧ w.cell? ⟨b, off + (i + 3), none⟩ = some (.int .u8 ((l.getD (i + 3) 0 : Nat) : Int)) := by
  obtain ⟨b, off, e, h0⟩ := hb.cell i (by omega)
  obtain ⟨b1, o1, e1, h1⟩ := hb.cell (i + 1) (by omega)
  obtain ⟨b2, o2, e2, h2⟩ := hb.cell (i + 2) (by omega)
  obtain ⟨b3, o3, e3, h3⟩ := hb.cell (i + 3) (by omega)
  subst e
  cases e1
  cases e2
  cases e3
  exact ⟨b, off, rfl, h0, h1, h2, h3⟩
theorem RC.five {B : Nat} {w : World} {g : Nat} {T : TypeId} {a b c d e : Value} {W : World} (h : RC B w g T #[a, b, c, d, e] W) : W.cell? ⟨g, 0, none⟩ = some a ∧ W.cell? ⟨g, 1, none⟩ = some b ∧ W.cell? ⟨g, 2, none⟩ = some c ∧ W.cell? ⟨g, 3, none⟩ = some d ∧ W.cell? ⟨g, 4, none⟩ = some e ∧ W.frozen? ⟨g, 0, none⟩ = false ∧ W.frozen? ⟨g, 1, none⟩ = false ∧ W.frozen? ⟨g, 2, none⟩ = false ∧ W.frozen? ⟨g, 3, none⟩ = false ∧ W.frozen? ⟨g, 4, none⟩ = false :=
  ⟨h.cell 0 _ rfl, h.cell 1 _ rfl, h.cell 2 _ rfl, h.cell 3 _ rfl, h.cell 4 _ rfl, h.froz 0, h.froz 1, h.froz 2, h.froz 3, h.froz 4⟩
/-- Where the head ends: not yet seen, or there. -/
def EndIs (t : Tx) (i : Nat) (e : Int) : Prop := (e = -1 ∧ ∀ p, p < i → sepAt sep4 t p = false) ∨ ∃ k : Nat, e = (k : Int) ∧ k < i ∧ (∀ p, p < k → sepAt sep4 t p = false) ∧ sepAt sep4 t k = true
theorem end_none {t : Tx} (h : ∀ p, sepAt sep4 t p = false) : (cutL (crlf ++ crlf) t).2 = none := cutS_none _ t h
theorem end_some {t : Tx} {k : Nat} (h : ∀ p, p < k → sepAt sep4 t p = false) (hk : sepAt sep4 t k = true) : cutL (crlf ++ crlf) t = (t.take k, some (t.drop (k + 4))) := cutS_at _ (by decide) t k h hk
end Go.Proofs.YtcmiappiocfbiaaGreatDoor
