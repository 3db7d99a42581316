/- Flight, the document's answer: Send. -/
import Derived.Test.YticemhnfcelpmaaRf7
import Derived.Test.YticemhnfcelpmaaFl5
namespace Go.Proofs.Yticemhnfcelpmaa
open Go.ChangeShapes Go.WideShapes Go.ChangeAt Go.RowKit

section
variable {base : Nat} {w : World} {R : Nat} {sp : Option Addr} {c : Nat} {zs : List SPk} {pa : List Bool} {ck : List Int}
/-- The links that are parted, as the document's net keeps them. -/
def paS (pa : List Bool) (f t : Int) : Bool := pa.getD (10 * f.toNat + t.toNat) false
set_option maxHeartbeats 2000000 in
theorem refSend_no (h : RefAt base w R sp c zs pa ck) (hz : zs.length ≤ 1000) (f t : Int) (a : Option Addr) (m k : Nat) (hx : sendX (paS pa) (alive zs).length f t m ≠ 0) :
    Calls Try.prog 30 #[.pointer (some ⟨R, 0, none⟩), .int .i64 f, .int .i64 t, .slice a m k] w fun e w' => e = .returned (.tuple #[.int .i64 0, .int .i64 (sendX (paS pa) (alive zs).length f t m : Nat)]) ∧ Below w.heap.size w w' := by
  have H := hide h
  clear h
  go_enter Try.func30, Try.ntmps30
  go_wp2_with fail
  refine (refLink_calls f t _).mono ?_
  rintro e W1 ⟨rfl, rfl⟩
  cases hL : isL f t
  · go_wp2
    go_ret2
    rw [show sendX (paS pa) (alive zs).length f t m = 2 by simp [sendX, hL]]
    exact ⟨rfl, Below.refl _ _⟩
  · by_cases hm : 65536 < m
    · go_wp2
      go_ret2
      rw [show sendX (paS pa) (alive zs).length f t m = 6 by simp [sendX, hL, hm]]
      exact ⟨rfl, Below.refl _ _⟩
    · go_wp2_with fail
      refine (refLen_calls (unhide H) hz).mono ?_
      rintro e W2 ⟨rfl, b2⟩
      have B2 := hide b2
      have H2 := hide ((unhide H).later b2)
      clear b2
      by_cases hfu : 128 ≤ (alive zs).length
      · go_wp2
        go_ret2
        rw [show sendX (paS pa) (alive zs).length f t m = 6 by simp [sendX, hL, hfu]]
        exact ⟨rfl, unhide B2⟩
      · obtain ⟨x, y, rfl, rfl, hx1, hx2, hy1, hy2, hxy⟩ := isL_nat hL
        have cj := (unhide H2).cp (10 * x + y) (by omega)
        have h0 : (0 : Int) ≤ 10 * (x : Int) + (y : Int) := by omega
        have h1 : 10 * (x : Int) + (y : Int) < 100 := by omega
        have hw : IntKind.i64.wrap (10 * (x : Int)) = 10 * (x : Int) := by rw [IntKind.wrap_i64]; omega
        have hw2 : IntKind.i64.wrap (10 * (x : Int) + (y : Int)) = 10 * (x : Int) + (y : Int) := by rw [IntKind.wrap_i64]; omega
        have hn : (10 * (x : Int) + (y : Int)).toNat = 10 * x + y := by omega
        cases hS : pa.getD (10 * x + y) false
        · exact absurd (by simp only [sendX, hL]; simp [hm, hfu, paS]; simpa using hS) hx
        · rw [hS] at cj
          go_wp2
          go_ret2
          rw [show sendX (paS pa) (alive zs).length (x : Int) (y : Int) m = 8 by simp only [sendX, hL]; simp [hm, hfu, paS]; simpa using hS]
          exact ⟨rfl, unhide B2⟩
set_option maxHeartbeats 2000000 in
theorem refSend_fresh (h : RefAt base w R sp c zs pa ck) (hz : zs.length ≤ 1000) (f t : Int) (a : Option Addr) (m k : Nat) (l : List Nat) (hm : l.length = m) (hb : BytesAt w a l) (hzn : a = none → k = 0) (hx : sendX (paS pa) (alive zs).length f t m = 0) :
    Calls Try.prog 30 #[.pointer (some ⟨R, 0, none⟩), .int .i64 f, .int .i64 t, .slice a m k] w fun e w' => e = .returned (.tuple #[.int .i64 ((zs.length : Int) + 1), .int .i64 0]) ∧ ∃ sp' c' hd, RefAt base w' R sp' c' (zs ++ [((((zs.length : Int) + 1, f, t, l), hd), false)]) pa ck ∧ RGrew R w sp w' sp' ∧ ∀ g, blk hd.1 = some g → w.heap.size ≤ g := by
  obtain ⟨hL, hm2, hfu, hS⟩ := sendX_zero hx
  have hmd : ¬ (65536 < m) := by omega
  have hfd : ¬ (128 ≤ (alive zs).length) := by omega
  have H := hide h
  have HB := hide hb
  have HZ := hide hzn
  have HM := hide hm
  clear h hb hzn hm hx hfu
  obtain ⟨x, y, rfl, rfl, hx1, hx2, hy1, hy2, hxy⟩ := isL_nat hL
  go_enter Try.func30, Try.ntmps30
  go_wp2_with fail
  refine (refLink_calls _ _ _).mono ?_
  rintro e W1 ⟨rfl, rfl⟩
  rw [hL]
  go_wp2_with fail
  refine (refLen_calls (unhide H) hz).mono ?_
  rintro e W2 ⟨rfl, b2⟩
  have B2 := hide b2
  have H2 := hide ((unhide H).later b2)
  clear b2
  have cj := (unhide H2).cp (10 * x + y) (by omega)
  have h0 : (0 : Int) ≤ 10 * (x : Int) + (y : Int) := by omega
  have h1 : 10 * (x : Int) + (y : Int) < 100 := by omega
  have hw : IntKind.i64.wrap (10 * (x : Int)) = 10 * (x : Int) := by rw [IntKind.wrap_i64]; omega
  have hw2 : IntKind.i64.wrap (10 * (x : Int) + (y : Int)) = 10 * (x : Int) + (y : Int) := by rw [IntKind.wrap_i64]; omega
  have hn : (10 * (x : Int) + (y : Int)).toNat = 10 * x + y := by omega
  have hS' : pa.getD (10 * x + y) false = false := hS
  rw [hS'] at cj
  go_wp2_with fail
  refine (add_fresh (unhide H2) hz (x : Int) (y : Int) a m k l (unhide HM) (by omega) ((unhide HB).later (unhide B2)) (unhide HZ)).mono ?_
  rintro e W3 ⟨rfl, sp', c', hd, h3, g3, l3⟩
  have H3 := hide h3
  have L3 := hide (show ∀ g, blk hd.1 = some g → _ ≤ g from fun g hg => Nat.le_trans (unhide B2).size (l3 g hg))
  have G3 := hide ((RGrew.ofBelow (R := R) (sp := sp) (unhide B2)).trans g3)
  clear h3 g3 l3
  go_wp2
  go_ret2
  exact ⟨rfl, sp', c', hd, unhide H3, unhide G3, unhide L3⟩
theorem refSend_yes (h : RefAt base w R sp c zs pa ck) (hz : zs.length ≤ 1000) (f t : Int) (a : Option Addr) (m k : Nat) (l : List Nat) (hm : l.length = m) (hb : BytesAt w a l) (hzn : a = none → k = 0) (hx : sendX (paS pa) (alive zs).length f t m = 0) :
    Calls Try.prog 30 #[.pointer (some ⟨R, 0, none⟩), .int .i64 f, .int .i64 t, .slice a m k] w fun e w' => e = .returned (.tuple #[.int .i64 ((zs.length : Int) + 1), .int .i64 0]) ∧ ∃ sp' c' hd, RefAt base w' R sp' c' (zs ++ [((((zs.length : Int) + 1, f, t, l), hd), false)]) pa ck ∧ RGrew R w sp w' sp' :=
  (refSend_fresh h hz f t a m k l hm hb hzn hx).mono fun _ _ ⟨h1, sp', c', hd, h2, h3, _⟩ => ⟨h1, sp', c', hd, h2, h3⟩
end
end Go.Proofs.Yticemhnfcelpmaa
