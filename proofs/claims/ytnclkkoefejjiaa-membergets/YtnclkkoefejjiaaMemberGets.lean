/- Proved: the members and the change of bytes, or the error, are just what the document says, whatever the bytes; no condition. -/
import Derived.Test.YtnclkkoefejjiaaMg4
namespace Go.Proofs.Ytnclkkoefejjiaa.memberGets
open Go.ChangeShapes Go.WideShapes Go.ChangeAt Go.RowKit
set_option linter.unusedVariables false

theorem own : ownKnob Try.prog.godebug = none := by kernel_rfl
theorem laidOut : laidOutB Try.prog = true := by kernel_rfl

def gV : Except Nat (List Int × List Int) → List Int | .ok (v, _) => v | .error _ => []
def gL : Except Nat (List Int × List Int) → List Int | .ok (_, l) => l | .error _ => []
def gE : Except Nat (List Int × List Int) → Int | .ok _ => 0 | .error x => x
theorem get_open {r : Except Nat (List Int × List Int)} {base : Nat} {e : Ending} {w' : World} (h : GetRes r base e w') : ∃ spA nA cA spB nB cB, e = .returned (.tuple #[mV spA nA cA spB nB cB, .int .i64 (gE r)]) ∧ (gV r).length = nA ∧ (gL r).length = nB ∧ IntsAt w' spA (gV r) ∧ IntsAt w' spB (gL r) ∧ nA ≤ maxLen ∧ nB ≤ maxLen := by
  cases r with
  | error x => exact ⟨none, 0, 0, none, 0, 0, h.1, rfl, rfl, ints_nil _ _, ints_nil _ _, by simp [maxLen], by simp [maxLen]⟩
  | ok r =>
    obtain ⟨v, l⟩ := r
    obtain ⟨spA, nA, cA, spB, nB, cB, h1, h2, h3, h4, h5⟩ := h
    have k1 := h4.cap
    have k2 := h5.cap
    exact ⟨spA, nA, cA, spB, nB, cB, h1, h2, h3, h4.ints, h5.ints, by omega, by omega⟩
def gD : Except Nat (Int × Int) → Int | .ok (d, _) => d | .error _ => 0
def gN : Except Nat (Int × Int) → Int | .ok (_, n) => n | .error _ => 0
def gF : Except Nat (Int × Int) → Int | .ok _ => 0 | .error x => x
theorem getC_open {r : Except Nat (Int × Int)} {e : Ending} (h : GetCRes r e) : e = .returned (.tuple #[cV (gD r) (gN r), .int .i64 (gF r)]) := by
  cases r with
  | error x => exact h.1
  | ok r => obtain ⟨d, n⟩ := r; exact h
set_option maxRecDepth 20000 in
set_option maxHeartbeats 16000000 in
theorem walk (a0 : Option Addr) (c0 : Nat) (l0 : List Nat) (w : World) (hc0 : l0.length ≤ c0) (hm0 : c0 ≤ 140737488355328) (hb0 : BytesAt w a0 l0) (_ : a0 = none → c0 = 0) :
    Calls Try.prog 13 #[.slice a0 l0.length c0] w fun e w' => e = .returned (.bool true) ∧ Below w.heap.size w w' := by
  obtain ⟨m, hm⟩ : ∃ n, l0.length = n := ⟨_, rfl⟩
  rw [hm] at hc0
  rw [hm]
  have mx : m ≤ maxLen := by simp only [maxLen]; omega
  have mb : m ≤ 140737488355328 := by omega
  have HM := hide hm
  have HB := hide hb0
  clear hm hb0
  go_enter Try.func13, Try.ntmps13
  go_wp2_with fail
  refine (mget_calls (unhide HB) m (unhide HM) mx).mono ?_
  rintro e w1 ⟨hres, b1⟩
  obtain ⟨spA, nA, cA, spB, nB, cB', rfl, hnA, hnB, iA, iB, mA, mB'⟩ := get_open hres
  have NA := hide hnA
  have NB := hide hnB
  have F1 := hide (b1.trans (((Below.refl _ _).alloc (Nat.le_refl _) (mB spA nA cA spB nB cB')).mono b1.size))
  have X1 := hide (heap_new w1 (mB spA nA cA spB nB cB'))
  have IA := hide (iA.later ((Below.refl _ w1).alloc (Nat.le_refl _) (mB spA nA cA spB nB cB')))
  have IB := hide (iB.later ((Below.refl _ w1).alloc (Nat.le_refl _) (mB spA nA cA spB nB cB')))
  clear hres b1 hnA hnB iA iB
  go_wp2_with fail
  generalize hP : w1.heap.size = P at *
  generalize w1.alloc (mB spA nA cA spB nB cB') = w2 at *
  refine (rget_calls ((unhide HB).later (unhide F1)) m (unhide HM) mb).mono ?_
  rintro e w3 ⟨hres, b3⟩
  obtain ⟨spC, nC, cC, spE, nE, cE, rfl, hnC, hnE, iC, iE, mC, mE⟩ := get_open hres
  have NC := hide hnC
  have NE := hide hnE
  have G3 := hide (b3.trans (((Below.refl _ _).alloc (Nat.le_refl _) (mB spC nC cC spE nE cE)).mono b3.size))
  have F3 := hide ((unhide F1).trans ((unhide G3).mono (unhide F1).size))
  have X3 := hide (heap_new w3 (mB spC nC cC spE nE cE))
  have IC := hide (iC.later ((Below.refl _ w3).alloc (Nat.le_refl _) (mB spC nC cC spE nE cE)))
  have IE := hide (iE.later ((Below.refl _ w3).alloc (Nat.le_refl _) (mB spC nC cC spE nE cE)))
  have IA3 := hide ((unhide IA).later (unhide G3))
  have IB3 := hide ((unhide IB).later (unhide G3))
  have Y3 := hide (later_block (unhide G3) (unhide X1))
  clear hres b3 hnC hnE iC iE
  go_wp2_with fail
  generalize hQ : w3.heap.size = Q at *
  generalize w3.alloc (mB spC nC cC spE nE cE) = w4 at *
  generalize gE (getE l0) = er at *
  refine (mgetC_calls ((unhide HB).later (unhide F3)) m (unhide HM) mx).mono ?_
  rintro e w5 ⟨hres, b5⟩
  obtain rfl := getC_open hres
  have G5 := hide (b5.trans (((Below.refl _ _).alloc (Nat.le_refl _) (cB (gD (getCE l0)) (gN (getCE l0)))).mono b5.size))
  have F5 := hide ((unhide F3).trans ((unhide G5).mono (unhide F3).size))
  have Z5 := hide (heap_new w5 (cB (gD (getCE l0)) (gN (getCE l0))))
  clear hres b5
  go_wp2_with fail
  generalize hR : w5.heap.size = R at *
  generalize w5.alloc (cB (gD (getCE l0)) (gN (getCE l0))) = w6 at *
  refine (rgetC_calls ((unhide HB).later (unhide F5)) m (unhide HM) mb).mono ?_
  rintro e w7 ⟨hres, b7⟩
  obtain rfl := getC_open hres
  clear hres
  generalize gD (getCE l0) = d at *
  generalize gN (getCE l0) = n at *
  generalize gF (getCE l0) = er2 at *
  have G7 := hide (b7.trans (((Below.refl _ _).alloc (Nat.le_refl _) (cB d n)).mono b7.size))
  have F7 := hide ((unhide F5).trans ((unhide G7).mono (unhide F5).size))
  have Z7 := hide (heap_new w7 (cB d n))
  have Y7 := hide (later_block (unhide G7) (unhide Z5))
  clear b7
  go_wp2_with fail
  generalize hT : w7.heap.size = T at *
  generalize w7.alloc (cB d n) = w8 at *
  refine (live3_calls _).mono ?_
  rintro e w9 ⟨rfl, b9⟩
  have G9 := hide ((unhide G5).trans (((unhide G7).trans (b9.mono (unhide G7).size)).mono (unhide G5).size))
  have F9 := hide ((unhide F7).trans (b9.mono (unhide F7).size))
  have z0 := box_cell (later_block (unhide G9) (unhide Y3)) 0 _ rfl
  have z1 := box_cell (later_block (unhide G9) (unhide Y3)) 1 _ rfl
  have z2 := box_cell (later_block (unhide G9) (unhide X3)) 0 _ rfl
  have z3 := box_cell (later_block (unhide G9) (unhide X3)) 1 _ rfl
  have Y9 := hide (later_block b9 (unhide Y7))
  have Z9 := hide (later_block b9 (unhide Z7))
  clear b9
  go_wp2_with fail
  refine (same_calls ((unhide IA3).later (unhide G9)) ((unhide IB3).later (unhide G9)) ((unhide IC).later (unhide G9)) ((unhide IE).later (unhide G9)) nA nB nC nE (unhide NA) (unhide NB) (unhide NC) (unhide NE) mA mB' mC mE).mono ?_
  rw [show (decide (gV (getE l0) = gV (getE l0)) && decide (gL (getE l0) = gL (getE l0))) = true by simp]
  rintro e w10 ⟨rfl, b10⟩
  have F10 := hide ((unhide F9).trans (b10.mono (unhide F9).size))
  have y0 := box_cell (later_block b10 (unhide Y9)) 0 _ rfl
  have y1 := box_cell (later_block b10 (unhide Y9)) 1 _ rfl
  have y2 := box_cell (later_block b10 (unhide Z9)) 0 _ rfl
  have y3 := box_cell (later_block b10 (unhide Z9)) 1 _ rfl
  clear b10 z0 z1 z2 z3
  go_wp2
  go_ret
  exact ⟨by simp, unhide F10⟩

set_option maxRecDepth 100000 in
theorem lifted (os : Os) (started : os.Started) (H : Type) (enc : TypeId × Value → H) :
    ReturnsInHanded {} Try.checked os 13 .any (Rows.memberGetsSpec.pre6 enc Try.prog Try.f13 Rows.memberGetsRow.domain false) (Rows.memberGetsSpec.post enc Try.prog Try.f13 false true false false) := by
  refine returnsInHanded_of_change_sized (C := Try.checked) own started (by kernel_rfl) Try.func13
    (ChangeSpec.witness6 (enc := enc) (C := Try.checked) false ⟨#[], #[.slice none 0 0], []⟩ 8 (by kernel_rfl) (by kernel_rfl) (by kernel_rfl) (by kernel_rfl)) ?_
  intro W base args ds gs before hval0 hW hcnd hsz _
  have hval : ∀ (j : Nat) t v, Try.f13.params[j]? = some t → args[j]? = some v → Value.okWide Try.prog W .any base t v := hval0
  have hW' := hW
  obtain ⟨p, q, hA0, hV, rfl, hfz, hnd⟩ := hW
  have hA : DataW.TrodAll enc Try.prog W 0 (fun _ => true) true Try.f13.params.toList args.toList ds p := hA0
  rw [Try.params13] at hA hval
  obtain ⟨v0, vs0, d0, ds0, p0, q0, hargs, rfl, rfl, h0, r0⟩ := trodAll_cons hA
  obtain ⟨rfl, rfl, rfl⟩ := trodAll_nil r0
  obtain rfl : args = #[v0] := by cases args; simp_all
  obtain ⟨rfl, rfl⟩ := trodVars_none hV
  obtain ⟨a0, len0, c0, rfl⟩ := okWide_slice Try.underlying52 (hval 0 52 v0 rfl rfl)
  have k0 := h0
  have lt0 : ∀ x ∈ p0, x.block < W.heap.size := by obtain ⟨m, hm⟩ := k0; exact DataW.trod_lt m _ _ _ hm
  obtain ⟨l0, rfl, hc0, hx0, hb0, hz0, hr0⟩ := row8 h0
  clear hA0 hval0
  have hm0 : c0 ≤ 140737488355328 := reach8 hsz (j := 0) (d := d0) rfl rfl hr0
  refine (walk a0 c0 l0 W hc0 hm0 hb0 hz0).mono fun e W' ⟨he, bel⟩ => ?_
  subst he
  exact ⟨_, rfl, _, _, _, [], _, [], hW', trodAll_mk1 (shut_bool Try.underlying4 _), (trodAll_cons_mk (Below.trod laidOut (by kernel_rfl) (of_decide_eq_true (by kernel_rfl)) k0 bel lt0) trodAll_mk0), rfl, bel.frame _, fun h => by cases h⟩

theorem proved : Rows.MemberGetsSaid :=
  OpenClaim.holds_of_wide 13 Try.f13 rfl rfl rfl rfl rfl rfl rfl ⟨rfl, rfl, rfl, rfl, rfl⟩ rfl rfl rfl rfl rfl (by kernel_rfl) Try.func13 (by kernel_rfl)
    (of_decide_eq_true (by kernel_rfl)) (by unfold Func.isWrapper; first | (rw [if_pos (by decide +kernel)]; kernel_rfl) | (rw [if_neg (by decide +kernel)]; exact ⟨rfl, rfl⟩))
    (fun os started H enc _ => lifted os started H enc)
end Go.Proofs.Ytnclkkoefejjiaa.memberGets
namespace Go.Proofs.Ytnclkkoefejjiaa
theorem memberGets_holds : Rows.MemberGetsSaid := memberGets.proved
#print axioms memberGets_holds
end Go.Proofs.Ytnclkkoefejjiaa
