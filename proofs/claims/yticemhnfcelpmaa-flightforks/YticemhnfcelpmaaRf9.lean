/- Flight, the document's answer: Double. -/
import Derived.Test.YticemhnfcelpmaaRf8
namespace Go.Proofs.Yticemhnfcelpmaa
open Go.ChangeShapes Go.WideShapes Go.ChangeAt Go.RowKit

section
variable {base : Nat} {w : World} {R : Nat} {sp : Option Addr} {c : Nat} {zs : List SPk} {pa : List Bool} {ck : List Int}
theorem hasP_at (j : Nat) (hj : j < zs.length) (hg : zs[j].2 = false) (i : Int) (hm : ((alive (zs.take j)).length : Int) = i) : hasP (alive zs) i = true := by
  have hl := alive_take j hj
  rw [hg] at hl
  have : (alive (zs.take j)).length < (alive zs).length := by
    have e1 : zs = zs.take (j + 1) ++ zs.drop (j + 1) := (List.take_append_drop _ _).symm
    have e2 : (alive zs).length = (alive (zs.take (j + 1))).length + (alive (zs.drop (j + 1))).length := by
      conv => lhs; rw [e1]
      unfold alive
      rw [List.filter_append, List.map_append, List.length_append]
    rw [e2, hl, List.length_append]
    simp
    omega
  simp only [hasP, Bool.and_eq_true, decide_eq_true_eq]
  omega
set_option maxRecDepth 20000 in
set_option maxHeartbeats 2000000 in
theorem refDouble_no (h : RefAt base w R sp c zs pa ck) (hz : zs.length ≤ 1000) (i : Int) (hx : doubleX (alive zs) i ≠ 0) :
    Calls Try.prog 32 #[.pointer (some ⟨R, 0, none⟩), .int .i64 i] w fun e w' => e = .returned (.tuple #[.int .i64 0, .int .i64 (doubleX (alive zs) i : Nat)]) ∧ Below w.heap.size w w' := by
  have H := hide h
  clear h
  go_enter Try.func32, Try.ntmps32
  go_wp2_with fail
  refine (place_calls (unhide H) hz i).mono ?_
  rintro e W1 ⟨rfl, ⟨j, hj, rfl, hg, hm⟩ | ⟨rfl, hno⟩⟩
  · have hh := hasP_at j hj hg i hm
    have hj0 : (0 : Int) ≤ (j : Int) := by omega
    have hj1 : ¬ ((j : Int) < 0) := by omega
    clear hg hm
    go_wp2_with fail
    refine (refLen_calls (unhide H) hz).mono ?_
    rintro e W2 ⟨rfl, b2⟩
    have B2 := hide b2
    clear b2
    by_cases hfu : 128 ≤ (alive zs).length
    · go_wp2
      go_ret2
      rw [show doubleX (alive zs) i = 6 by simp [doubleX, hh, hfu]]
      exact ⟨rfl, unhide B2⟩
    · exact absurd (by simp [doubleX, hh, hfu]) hx
  · go_wp2
    go_ret2
    rw [show doubleX (alive zs) i = 8 by simp [doubleX, hno]]
    exact ⟨rfl, Below.refl _ _⟩
set_option maxRecDepth 20000 in
set_option maxHeartbeats 4000000 in
theorem refDouble_fresh (h : RefAt base w R sp c zs pa ck) (hz : zs.length ≤ 1000) (i : Int) (hx : doubleX (alive zs) i = 0) (hbl : ∀ z ∈ zs, z.1.1.2.2.2.length ≤ 65536) :
    Calls Try.prog 32 #[.pointer (some ⟨R, 0, none⟩), .int .i64 i] w fun e w' => e = .returned (.tuple #[.int .i64 ((zs.length : Int) + 1), .int .i64 0]) ∧ ∃ j : Nat, ∃ hj : j < zs.length, zs[j].2 = false ∧ ((alive (zs.take j)).length : Int) = i ∧ ∃ sp' c' hd, RefAt base w' R sp' c' (zs ++ [((((zs.length : Int) + 1, zs[j].1.1.2.1, zs[j].1.1.2.2.1, zs[j].1.1.2.2.2), hd), false)]) pa ck ∧ RGrew R w sp w' sp' ∧ ∀ g, blk hd.1 = some g → w.heap.size ≤ g := by
  have hh : hasP (alive zs) i = true := by
    unfold doubleX at hx
    split at hx
    · cases hx
    · rename_i h1; simpa using h1
  have hfd : ¬ (128 ≤ (alive zs).length) := by
    intro h1
    simp [doubleX, hh, h1] at hx
  have H := hide h
  clear h hx
  go_enter Try.func32, Try.ntmps32
  go_wp2_with fail
  refine (place_calls (unhide H) hz i).mono ?_
  rintro e W1 ⟨rfl, ⟨j, hj, rfl, hg, hm⟩ | ⟨_, hno⟩⟩
  rotate_left
  · rw [hno] at hh; cases hh
  have HG := hide hg
  have HM := hide hm
  have hj0 : (0 : Int) ≤ (j : Int) := by omega
  have hjn : ¬ ((j : Int) < 0) := by omega
  clear hg hm hh
  go_wp2_with fail
  refine (refLen_calls (unhide H) hz).mono ?_
  rintro e W2 ⟨rfl, b2⟩
  have B2 := hide b2
  have H2 := hide ((unhide H).later b2)
  clear b2
  obtain ⟨g, rfl, p0, p1, p2, p3, p4⟩ := (unhide H2).own.cell j hj
  have c0 := (unhide H2).c0
  have hj1 : (j : Int) < (zs.length : Int) := by omega
  have bA := hide (show Below W2.heap.size W2 (W2.alloc (.cells #[.int .i64 zs[j].1.1.1, .int .i64 zs[j].1.1.2.1, .int .i64 zs[j].1.1.2.2.1, .slice zs[j].1.2.1 zs[j].1.1.2.2.2.length zs[j].1.2.2] 35)) from (Below.refl _ _).alloc (Nat.le_refl _) _)
  have HA := hide ((unhide H2).later (unhide bA))
  have OA := hide ((unhide HA).own.dat zs[j] (List.getElem_mem hj))
  have hlj := hide (hbl zs[j] (List.getElem_mem hj))
  go_wp2_with fail
  refine (add_fresh (unhide HA) hz _ _ _ _ _ zs[j].1.1.2.2.2 rfl (Nat.le_trans (unhide hlj) (by decide)) (unhide OA).bytes (unhide OA).nilCap).mono ?_
  rintro e W3 ⟨rfl, sp', c', hd, h3, g3, l3⟩
  have H3 := hide h3
  have L3 := hide (show ∀ g, blk hd.1 = some g → _ ≤ g from fun g hg => Nat.le_trans (Nat.le_trans (unhide B2).size (unhide bA).size) (l3 g hg))
  have G3 := hide ((RGrew.ofBelow (R := R) ((unhide B2).trans ((unhide bA).mono (unhide B2).size))).trans g3)
  clear h3 g3 l3
  go_wp2
  go_ret2
  exact ⟨rfl, j, hj, unhide HG, unhide HM, sp', c', hd, unhide H3, unhide G3, unhide L3⟩
theorem refDouble_yes (h : RefAt base w R sp c zs pa ck) (hz : zs.length ≤ 1000) (i : Int) (hx : doubleX (alive zs) i = 0) (hbl : ∀ z ∈ zs, z.1.1.2.2.2.length ≤ 65536) :
    Calls Try.prog 32 #[.pointer (some ⟨R, 0, none⟩), .int .i64 i] w fun e w' => e = .returned (.tuple #[.int .i64 ((zs.length : Int) + 1), .int .i64 0]) ∧ ∃ j : Nat, ∃ hj : j < zs.length, zs[j].2 = false ∧ ((alive (zs.take j)).length : Int) = i ∧ ∃ sp' c' hd, RefAt base w' R sp' c' (zs ++ [((((zs.length : Int) + 1, zs[j].1.1.2.1, zs[j].1.1.2.2.1, zs[j].1.1.2.2.2), hd), false)]) pa ck ∧ RGrew R w sp w' sp' :=
  (refDouble_fresh h hz i hx hbl).mono fun _ _ ⟨h1, j, hj, h4, h5, sp', c', hd, h2, h3, _⟩ => ⟨h1, j, hj, h4, h5, sp', c', hd, h2, h3⟩
end
end Go.Proofs.Yticemhnfcelpmaa
