/- PutEntry and the document's answer: one answer for both. -/
import Derived.Test.YtmnpokjccbafdaaRre
namespace Go.Proofs.Ytmnpokjccbafdaa
open Go.ChangeShapes Go.WideShapes Go.ChangeAt Go.RowKit

/-- A function of an entry answers these bytes and this error. -/
def PutsE (F : Nat) (k t i : Int) (dp : Option Addr) (m dc : Nat) (d b : List Nat) (x : Nat) : Prop :=
  ∀ w : World, BytesAt w dp d → Calls Try.prog F #[entV k t i dp m dc] w fun e w' => ∃ sp n c, e = .returned (.tuple #[.slice sp n c, .int .i64 (x : Int)]) ∧ Hid (b.length = n) ∧ BytesAt w' sp b ∧ Below w.heap.size w w'
theorem mayE_nat {k t i : Int} {n : Nat} (h : MayE k t i n) : ∃ k' t' i' : Nat, k = (k' : Int) ∧ t = (t' : Int) ∧ i = (i' : Int) := by
  obtain ⟨⟨h1, _⟩, ⟨h2, _⟩, ⟨h3, _⟩, _⟩ := h
  exact ⟨k.toNat, t.toNat, i.toNat, by omega, by omega, by omega⟩
theorem putEntry_both (k t i : Int) (dp : Option Addr) (m dc : Nat) (d : List Nat) (hm : d.length = m) (hz : dp = none → dc = 0) :
    ∃ b x, PutsE 14 k t i dp m dc d b x ∧ PutsE 15 k t i dp m dc d b x := by
  have hnil : ∀ W : World, BytesAt W none [] := fun W => ⟨by simp, by simp⟩
  by_cases h : MayE k t i m
  · by_cases hl : m ≤ 2048
    · obtain ⟨k', t', i', rfl, rfl, rfl⟩ := mayE_nat h
      refine ⟨entryB k' t' i' d, 0, fun w hB => ?_, fun w hB => ?_⟩
      · refine (putEntry_yes k' t' i' dp m dc d w h hm hB hz (by omega)).mono ?_
        rintro e w' ⟨sp, n, c, rfl, h1, h2, h3⟩
        exact ⟨sp, n, c, rfl, h1, h2.bytes, h3⟩
      · exact refPutEntry_yes k' t' i' dp m dc d w h hm hB hz (by omega)
    · refine ⟨[], 6, fun w hB => ?_, fun w hB => ?_⟩
      · refine (putEntry_long k t i dp m dc w h (by omega)).mono ?_
        rintro e w' ⟨rfl, h3⟩
        exact ⟨none, 0, 0, rfl, rfl, hnil _, h3⟩
      · refine (refPutEntry_no k t i dp m dc 6 w (fun w => right_long k t i dp m dc w h (by omega)) (by decide)).mono ?_
        rintro e w' ⟨rfl, h3⟩
        exact ⟨none, 0, 0, rfl, rfl, hnil _, h3⟩
  · refine ⟨[], 2, fun w hB => ?_, fun w hB => ?_⟩
    · refine (putEntry_no k t i dp m dc w h).mono ?_
      rintro e w' ⟨rfl, h3⟩
      exact ⟨none, 0, 0, rfl, rfl, hnil _, h3⟩
    · refine (refPutEntry_no k t i dp m dc 2 w (fun w => right_no k t i dp m dc w h) (by decide)).mono ?_
      rintro e w' ⟨rfl, h3⟩
      exact ⟨none, 0, 0, rfl, rfl, hnil _, h3⟩
end Go.Proofs.Ytmnpokjccbafdaa
