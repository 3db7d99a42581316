/- Conf: the program's reader of bytes: fail, number. -/
import Derived.Test.YtpkpnedcecjlbaaGreatDoorB07
import Derived.Test.YtpkpnedcecjlbaaGreatDoorB02
import Derived.Test.YtpkpnedcecjlbaaGreatDoorB08
import Derived.Deep.QuietTactic
import Derived.BigQuiet
section
namespace Go.Proofs.YtpkpnedcecjlbaaGreatDoor
open Go.ChangeShapes Go.WideShapes Go.ChangeAt Go.RowKit
set_option linter.unusedVariables false

theorem BytesAt.far0 {w w' : World} {a : Option Addr} {l : List Nat} {j : Nat} (hb : BytesAt w a l) (hg : w.grownBy w' (some j)) (hne : 0 < l.length → ∀ b off, a = some ⟨b, off, none⟩ → b ≠ j) : BytesAt w' a l := by
  rcases Nat.eq_zero_or_pos l.length with h | h
  · exact ⟨hb.lt, fun i hi => by omega⟩
  · exact hb.far hg (hne h)
/-- A reader at block R: its bytes, its place, its error. -/
structure KR (R : Nat) (w : World) (p : Option Addr) (c : Nat) (h : List Nat) (k e : Nat) : Prop where
  row : w.heap[R]? = some (.cells #[.slice p h.length c, .int .i64 (k : Int), .int .i64 (e : Int)] 73 (0, 0))
  by_ : BytesAt w p h
  ne : 0 < h.length → ∀ ad, p = some ad → ad.block ≠ R
  kl : k ≤ h.length
  hl : h.length ≤ maxLen
  hc : h.length ≤ c
  hm : c ≤ maxLen
  hz : p = none → c = 0
section
variable {R : Nat} {w w' : World} {p : Option Addr} {c : Nat} {h : List Nat} {k e : Nat}
theorem KR.later (z : KR R w p c h k e) (u : Below w.heap.size w w') : KR R w' p c h k e := ⟨later_block u z.row, z.by_.later u, z.ne, z.kl, z.hl, z.hc, z.hm, z.hz⟩
theorem grown_ofK (u : Below w.heap.size w w') (o : Option Nat) : w.grownBy w' o := ⟨u.os, u.tape, u.output, u.size, fun g hg _ => u.block g hg⟩
theorem KR.setE (z : KR R w p c h k e) (x : Nat) : KR R (w.setCell ⟨R, 2, none⟩ (.int .i64 (x : Int))) p c h k x :=
  ⟨heap_setCell_same w R 2 _ _ _ z.row, z.by_.far0 (grown_set w R 2 _) (fun h0 b off e => z.ne h0 _ e), z.ne, z.kl, z.hl, z.hc, z.hm, z.hz⟩
theorem KR.setK (z : KR R w p c h k e) (x : Nat) (hx : x ≤ h.length) : KR R (w.setCell ⟨R, 1, none⟩ (.int .i64 (x : Int))) p c h x e :=
  ⟨heap_setCell_same w R 1 _ _ _ z.row, z.by_.far0 (grown_set w R 1 _) (fun h0 b off e => z.ne h0 _ e), z.ne, hx, z.hl, z.hc, z.hm, z.hz⟩
theorem KR.froz (z : KR R w p c h k e) (i : Nat) : w.frozen? ⟨R, i, none⟩ = false := by simp [World.frozen?, z.row]
theorem KR.c0 (z : KR R w p c h k e) : w.cell? ⟨R, 0, none⟩ = some (.slice p h.length c) := box_cell z.row 0 _ rfl
theorem KR.c1 (z : KR R w p c h k e) : w.cell? ⟨R, 1, none⟩ = some (.int .i64 (k : Int)) := box_cell z.row 1 _ rfl
theorem KR.c2 (z : KR R w p c h k e) : w.cell? ⟨R, 2, none⟩ = some (.int .i64 (e : Int)) := box_cell z.row 2 _ rfl
theorem kfail_calls (z : KR R w p c h k e) (x : Nat) :
    Calls Tryz.prog 44 #[.pointer (some ⟨R, 0, none⟩), .int .i64 (x : Int)] w fun en w' => en = .returned (.tuple #[]) ∧ KR R w' p c h k (failK e x) ∧ w.grownBy w' (some R) := by
  by_cases he : e = 0
  · subst he
    have c2 : w.cell? ⟨R, 2, none⟩ = some (.int .i64 0) := z.c2
    have f2 := z.froz 2
    have FE := hide (show KR R (w.setCell ⟨R, 2, none⟩ (.int .i64 (x : Int))) p c h k (failK 0 x) ∧ w.grownBy (w.setCell ⟨R, 2, none⟩ (.int .i64 (x : Int))) (some R) from ⟨z.setE x, grown_set w R 2 _⟩)
    clear z
    go_enter Tryz.func44, Tryz.ntmps44
    go_wp2
    go_end0
    exact ⟨rfl, unhide FE⟩
  · have c2 := z.c2
    have e1 : ¬ (e : Int) = 0 := by omega
    have e2 : ((e : Int) == 0) = false := by simp [he]
    have FE := hide (show KR R w p c h k (failK e x) ∧ w.grownBy w (some R) from ⟨by rw [failK_err he]; exact z, grown_ofK (Below.refl _ _) _⟩)
    clear z he
    generalize (e : Int) = ei at *
    go_enter Tryz.func44, Tryz.ntmps44
    go_wp2
    go_end0
    exact ⟨rfl, unhide FE⟩
/-- How a step that tells a number ends. -/
def NEndK (R : Nat) (w : World) (p : Option Addr) (c : Nat) (h : List Nat) (r : Nat × Nat × Nat) (en : Ending) (w' : World) : Prop := en = .returned (.int .i64 (r.1 : Int)) ∧ KR R w' p c h r.2.1 r.2.2 ∧ w.grownBy w' (some R)
set_option maxRecDepth 20000 in
set_option maxHeartbeats 4000000 in
theorem knumber_calls (z : KR R w p c h k e) : Calls Tryz.prog 40 #[.pointer (some ⟨R, 0, none⟩)] w (NEndK R w p c h (numK h k e)) := by
  by_cases he : e = 0
  · subst he
    have Z := hide z
    have d0 : w.drew.cell? ⟨R, 0, none⟩ = some (.slice p h.length c) := z.c0
    have d1 : w.drew.cell? ⟨R, 1, none⟩ = some (.int .i64 (k : Int)) := z.c1
    have c2 : w.cell? ⟨R, 2, none⟩ = some (.int .i64 0) := z.c2
    cases ht : takeE h k with
    | ok q =>
      obtain ⟨n, k2⟩ := q
      have TC := hide (takeNum_ok p h.length c h k n k2 w.drew rfl (z.hl) z.kl (z.by_.later ((Below.refl _ _).drew)) ht)
      have hk2 := (takeE_leb ht z.by_.lt).1
      have FE := hide (show ∀ W, Below w.heap.size w W → NEndK R w p c h (numK h k 0) (.returned (.int .i64 (n : Int))) (W.setCell ⟨R, 1, none⟩ (.int .i64 (k2 : Int))) from fun W u => by
        rw [numK_ok ht]
        exact ⟨rfl, (z.later u).setK k2 hk2, grown_trans (grown_ofK u _) (grown_set W R 1 _)⟩)
      have FZ := hide (show ∀ W, Below w.heap.size w W → W.frozen? ⟨R, 1, none⟩ = false ∧ W.cell? ⟨R, 1, none⟩ = some (.int .i64 (k : Int)) from fun W u => ⟨(z.later u).froz 1, (z.later u).c1⟩)
      clear z ht
      go_enter Tryz.func40, Tryz.ntmps40
      go_wp2_with fail
      refine wp_region_held_drew (S := fun w' => w'.cell? ⟨R, 0, none⟩ = some (.slice p h.length c) ∧ w'.cell? ⟨R, 1, none⟩ = some (.int .i64 (k : Int))) (by kernel_rfl) ?_ (fun hHeld => ?_)
      · try dsimp only
        first | exact ⟨d0, d1⟩ | exact ⟨e0, e1⟩
      refine hT 0 ?_
      refine hT 1 ?_
      refine hT 2 ?_
      refine hT 3 ?_
      refine hT 4 ?_
      refine hT 5 ?_
      refine hT 6 ?_
      refine hT 7 ?_
      refine hO 8 (fun K hK => ?_)
      go_simp
      first
        | (go_at_call 69
           refine (unhide TC).mono ?_
           rintro e V1 ⟨rfl, v1⟩
           have e0 := cell_later v1 d0
           have e1 := cell_later v1 d1
           have U1 := hide (show Below w.heap.size w V1 from ⟨v1.os, v1.tape, v1.output, v1.size, v1.block⟩)
           clear v1)
      go_wp2_with fail
      refine hK.out _ _ ?_ (fun hHeld => ?_)
      · try dsimp only
        first | exact ⟨d0, d1⟩ | exact ⟨e0, e1⟩
      clear hK K
      refine hP ?_
      refine hT 9 ?_
      refine hT 10 ?_
      refine hT 11 ?_
      refine hT 12 ?_
      refine hT 13 ?_
      refine hT 14 ?_
      refine hT 15 ?_
      refine wpAnyH_done (by kernel_rfl) ?_ _
      obtain ⟨f1, g1⟩ := unhide FZ V1 (unhide U1)
      have FF := hide (unhide FE V1 (unhide U1))
      clear FE FZ
      go_wp2
      go_ret
      exact unhide FF
    | error x =>
      have hx := takeE_pos ht
      have TC := hide (takeNum_bad p h.length c h k x w.drew rfl (z.hl) z.kl (z.by_.later ((Below.refl _ _).drew)) ht)
      have FC := hide (fun W (u : Below w.heap.size w W) => kfail_calls (z.later u) x)
      have FE := hide (show ∀ W W', Below w.heap.size w W → KR R W' p c h k (failK 0 x) → W.grownBy W' (some R) → NEndK R w p c h (numK h k 0) (.returned (.int .i64 0)) W' from fun W W' u z' g => by
        rw [numK_bad ht]
        exact ⟨rfl, z', grown_trans (grown_ofK u _) g⟩)
      have x1 : ¬ (x : Int) = 0 := by omega
      have x2 : ((x : Int) == 0) = false := by simp [hx]
      clear z ht hx
      go_enter Tryz.func40, Tryz.ntmps40
      go_wp2_with fail
      generalize hxi : (x : Int) = xi at *
      refine wp_region_held_drew (S := fun w' => w'.cell? ⟨R, 0, none⟩ = some (.slice p h.length c) ∧ w'.cell? ⟨R, 1, none⟩ = some (.int .i64 (k : Int))) (by kernel_rfl) ?_ (fun hHeld => ?_)
      · try dsimp only
        first | exact ⟨d0, d1⟩ | exact ⟨e0, e1⟩
      refine hT 0 ?_
      refine hT 1 ?_
      refine hT 2 ?_
      refine hT 3 ?_
      refine hT 4 ?_
      refine hT 5 ?_
      refine hT 6 ?_
      refine hT 7 ?_
      refine hO 8 (fun K hK => ?_)
      go_simp
      first
        | (go_at_call 69
           refine (unhide TC).mono ?_
           rintro e V1 ⟨rfl, v1⟩
           have e0 := cell_later v1 d0
           have e1 := cell_later v1 d1
           have U1 := hide (show Below w.heap.size w V1 from ⟨v1.os, v1.tape, v1.output, v1.size, v1.block⟩)
           clear v1)
      go_wp2_with fail
      refine hK.out _ _ ?_ (fun hHeld => ?_)
      · try dsimp only
        first | exact ⟨d0, d1⟩ | exact ⟨e0, e1⟩
      clear hK K
      refine hP ?_
      refine hT 9 ?_
      refine hT 10 ?_
      refine hT 11 ?_
      refine hT 12 ?_
      refine hT 13 ?_
      refine hT 14 ?_
      refine hT 15 ?_
      refine wpAnyH_done (by kernel_rfl) ?_ _
      have FD := hide (unhide FC V1 (unhide U1))
      go_wp2_with fail
      go_at_call 44
      refine (unhide FD).mono ?_
      rintro e V2 ⟨rfl, z2, g2⟩
      have FF := hide (unhide FE V1 V2 (unhide U1) z2 g2)
      clear z2 g2 FE FC FD
      go_wp2
      go_ret
      exact unhide FF
  · have c2 := z.c2
    have e1 : ¬ (e : Int) = 0 := by omega
    have e2 : ((e : Int) == 0) = false := by simp [he]
    have FE := hide (show NEndK R w p c h (numK h k e) (.returned (.int .i64 0)) w from by
      rw [numK_err he]
      exact ⟨rfl, z, grown_ofK (Below.refl _ _) _⟩)
    clear z he
    generalize (e : Int) = ei at *
    go_enter Tryz.func40, Tryz.ntmps40
    go_wp2
    go_ret
    exact unhide FE
end
end Go.Proofs.YtpkpnedcecjlbaaGreatDoor
end
/- Conf: the program's reader: take, end. -/
section
namespace Go.Proofs.YtpkpnedcecjlbaaGreatDoor
open Go.ChangeShapes Go.WideShapes Go.ChangeAt Go.RowKit
set_option linter.unusedVariables false

section
variable {R : Nat} {w w' : World} {p : Option Addr} {c : Nat} {h : List Nat} {k e : Nat}
/-- Bytes that lie in the reader's own. -/
structure PartK (R : Nat) (w : World) (p sp : Option Addr) (m cc : Nat) (b : List Nat) : Prop where
  len : b.length = m
  cap : m ≤ cc
  mx : cc ≤ maxLen
  by_ : BytesAt w sp b
  nz : sp = none → cc = 0
  of : ∀ ad, sp = some ad → ∃ ad', p = some ad' ∧ ad'.block = ad.block
theorem PartK.nil (R : Nat) (w : World) (p : Option Addr) : PartK R w p none 0 0 [] := ⟨rfl, Nat.le_refl _, by simp, ⟨by simp, fun i hi => by simp at hi⟩, fun _ => rfl, fun ad e => by cases e⟩
theorem slp_ofK {p : Option Addr} {k c : Nat} : ∀ ad, slp p k c = some ad → ∃ ad', p = some ad' ∧ ad'.block = ad.block := by
  intro ad e
  unfold slp at e
  split at e
  · exact ⟨ad, e, rfl⟩
  · cases p with
    | none => cases e
    | some a' =>
      simp only [Option.map_some, Option.some.injEq] at e
      refine ⟨a', rfl, ?_⟩
      rw [← e]
      unfold Addr.add
      split <;> rfl
theorem slp_noneK {p : Option Addr} {k c : Nat} (h : slp p k c = none) (hz : p = none → c = 0) : c - k = 0 := by
  unfold slp at h
  split at h
  · omega
  · cases p with
    | none => have := hz rfl; omega
    | some ad => cases h
/-- How take ends. -/
def CEndK (R : Nat) (w : World) (p : Option Addr) (c : Nat) (h : List Nat) (r : List Nat × Nat × Nat) (en : Ending) (w' : World) : Prop := ∃ sp m cc, en = .returned (.slice sp m cc) ∧ PartK R w' p sp m cc r.1 ∧ KR R w' p c h r.2.1 r.2.2 ∧ w.grownBy w' (some R)
set_option maxRecDepth 20000 in
set_option maxHeartbeats 4000000 in
theorem ktake_calls (z : KR R w p c h k e) (n : Nat) (hn : n ≤ 1099511627776) : Calls Tryz.prog 70 #[.pointer (some ⟨R, 0, none⟩), .int .i64 (n : Int)] w (CEndK R w p c h (cutK h k e n)) := by
  have hkl := z.kl
  have hhl := z.hl
  simp only [maxLen] at hhl
  have c0 := z.c0
  have c1 := z.c1
  have hwr : IntKind.i64.wrap ((h.length : Int) - (k : Int)) = ((h.length - k : Nat) : Int) := by rw [IntKind.wrap_i64]; omega
  by_cases hs : h.length - k < n
  · have s1 : ((h.length - k : Nat) : Int) < (n : Int) := by omega
    have s2 : decide (((h.length - k : Nat) : Int) < (n : Int)) = true := decide_eq_true s1
    have FC := hide (fun W (u : Below w.heap.size w W) => kfail_calls (z.later u) 3)
    have EQ := hide (show cutK h k e n = ([], k, failK e 3) by
      have : failK e 3 ≠ 0 := by unfold failK; split <;> omega
      simp [cutK, cutX, hs, this])
    have HF := hide (show failK e 3 ≠ 0 by unfold failK; split <;> omega)
    generalize h.length - k = d at *
    generalize hL : h.length = L at *
    clear z hs
    go_enter Tryz.func70, Tryz.ntmps70
    go_wp2_with fail
    go_quiet (fail)
    go_wp2_with fail
    go_at_call 44
    refine (unhide FC _ (_root_.Go.below_drewN (Below.refl _ _) _)).mono ?_
    rintro en V1 ⟨rfl, z1, g1⟩
    have d2 := z1.c2
    have x1 : ¬ ((failK e 3 : Nat) : Int) = 0 := by have := unhide HF; omega
    have x2 : (((failK e 3 : Nat) : Int) == 0) = false := by simp [unhide HF]
    have FF := hide (show CEndK R w p c h (cutK h k e n) (.returned (.slice none 0 0)) V1 from by
      rw [unhide EQ]
      exact ⟨none, 0, 0, rfl, PartK.nil _ _ _, z1, grown_trans (grown_ofK (_root_.Go.below_drewN (Below.refl _ _) _) _) g1⟩)
    clear z1 g1 FC EQ HF
    generalize ((failK e 3 : Nat) : Int) = ei at *
    go_wp2
    go_ret
    exact unhide FF
  · have s1 : ¬ ((h.length - k : Nat) : Int) < (n : Int) := by omega
    have s2 : decide (((h.length - k : Nat) : Int) < (n : Int)) = false := decide_eq_false s1
    have Z := hide z
    by_cases he : e = 0
    · subst he
      have hsl : ∀ u, (Instr.slice 26 (.slice p h.length c) (some (.int .i64 (k : Int))) (some (.int .i64 ((k : Int) + (n : Int)))) none).run Tryz.prog u = .ok (.slice (slp p k c) n (c - k)) u := fun u => by
        have := run_slice_lh8 p h.length c k (k + n) (by omega) (by have := z.hc; omega) u
        rw [Nat.add_sub_cancel_left] at this
        rw [← this, Int.natCast_add]
      have hadd : IntKind.i64.wrap ((k : Int) + (n : Int)) = (k : Int) + (n : Int) := by rw [IntKind.wrap_i64]; omega
      have FF := hide (show ∀ W, Below w.heap.size w W → ∀ j, CEndK R w p c h (cutK h k 0 n) (.returned (.slice (slp p k c) n (c - k))) ((W.setCell ⟨R, 1, none⟩ (.int .i64 ((k : Int) + (n : Int)))).drewN j) from fun W u j => by
        have eq : cutK h k 0 n = ((h.drop k).take n, k + n, 0) := by simp [cutK, cutX, hs]
        have z2 := ((z.later u).setK (k + n) (by omega)).later (_root_.Go.below_drewN (Below.refl _ _) j)
        rw [Int.natCast_add] at z2
        rw [eq]
        refine ⟨_, _, _, rfl, ⟨by dsimp only; rw [List.length_take, List.length_drop]; omega, by have := z.hc; omega, by have := z.hm; omega, (z2.by_.drop k c z.hc).take n, fun hq => slp_noneK hq z.hz, slp_ofK⟩, z2, ?_⟩
        have := grown_trans (grown_trans (grown_ofK u (some R)) (grown_set W R 1 (.int .i64 ((k : Int) + (n : Int))))) (grown_ofK (_root_.Go.below_drewN (Below.refl _ _) j) (some R))
        exact this)
      have CL := hide (show ∀ W, Below w.heap.size w W → W.cell? ⟨R, 1, none⟩ = some (.int .i64 (k : Int)) ∧ W.cell? ⟨R, 2, none⟩ = some (.int .i64 0) ∧ W.frozen? ⟨R, 1, none⟩ = false ∧ (W.setCell ⟨R, 1, none⟩ (.int .i64 ((k : Int) + (n : Int)))).cell? ⟨R, 0, none⟩ = some (.slice p h.length c) ∧ (W.setCell ⟨R, 1, none⟩ (.int .i64 ((k : Int) + (n : Int)))).cell? ⟨R, 1, none⟩ = some (.int .i64 ((k : Int) + (n : Int))) from fun W u => by
        have z1 := z.later u
        have z2 := z1.setK (k + n) (by omega)
        rw [Int.natCast_add] at z2
        have h1 := z2.c1
        rw [Int.natCast_add] at h1
        exact ⟨z1.c1, z1.c2, z1.froz 1, z2.c0, h1⟩)
      generalize hL : h.length = L at *
      generalize L - k = d at *
      clear z hs Z
      go_enter Tryz.func70, Tryz.ntmps70
      go_wp2_with fail
      go_quiet (fail)
      obtain ⟨b1, b2, b3, b4, b5⟩ := unhide CL _ (_root_.Go.below_drewN (Below.refl w.heap.size w) nq)
      have F1 := hide (unhide FF _ (_root_.Go.below_drewN (Below.refl w.heap.size w) nq))
      generalize slp p k c = q at *
      generalize w.drewN nq = W1 at *
      go_wp2_with fail
      go_quiet (fail)
      go_wp2
      go_ret
      exact unhide F1 _
    · have FF := hide (show ∀ j, CEndK R w p c h (cutK h k e n) (.returned (.slice none 0 0)) (w.drewN j) from fun j => by
        have eq : cutK h k e n = ([], k, e) := by simp [cutK, cutX, hs, he]
        rw [eq]
        exact ⟨none, 0, 0, rfl, PartK.nil _ _ _, z.later (_root_.Go.below_drewN (Below.refl _ _) j), grown_ofK (_root_.Go.below_drewN (Below.refl _ _) j) _⟩)
      have c2 := z.c2
      have x1 : ¬ (e : Int) = 0 := by omega
      have x2 : ((e : Int) == 0) = false := by simp [he]
      have D2 := hide (show ∀ j, (w.drewN j).cell? ⟨R, 2, none⟩ = some (.int .i64 (e : Int)) from fun j => (z.later (_root_.Go.below_drewN (Below.refl _ _) j)).c2)
      generalize hL : h.length = L at *
      generalize L - k = d at *
      clear z hs he Z c2
      generalize (e : Int) = ei at *
      go_enter Tryz.func70, Tryz.ntmps70
      go_wp2_with fail
      go_quiet (fail)
      have d2 := unhide D2 nq
      have F1 := hide (unhide FF nq)
      generalize w.drewN nq = W1 at *
      go_wp2
      go_ret
      exact unhide F1
set_option maxHeartbeats 4000000 in
theorem kend_calls (z : KR R w p c h k e) : Calls Tryz.prog 43 #[.pointer (some ⟨R, 0, none⟩)] w fun en w' => en = .returned (.tuple #[]) ∧ KR R w' p c h k (endK h k e) ∧ w.grownBy w' (some R) := by
  have c0 := z.c0
  have c1 := z.c1
  by_cases hk : k < h.length
  · have s1 : (k : Int) < (h.length : Int) := by omega
    have s2 : decide ((k : Int) < (h.length : Int)) = true := decide_eq_true s1
    have FC := hide (fun W (u : Below w.heap.size w W) => kfail_calls (z.later u) 4)
    have EQ := hide (show endK h k e = failK e 4 by unfold endK; rw [if_pos hk])
    generalize hL : h.length = L at *
    clear z hk
    go_enter Tryz.func43, Tryz.ntmps43
    go_wp2_with fail
    go_quiet (fail)
    go_wp2_with fail
    go_at_call 44
    refine (unhide FC _ (_root_.Go.below_drewN (Below.refl _ _) _)).mono ?_
    rintro en V1 ⟨rfl, z1, g1⟩
    have FF := hide (show KR R V1 p c h k (endK h k e) ∧ w.grownBy V1 (some R) from by
      rw [unhide EQ]
      exact ⟨z1, grown_trans (grown_ofK (_root_.Go.below_drewN (Below.refl _ _) _) _) g1⟩)
    clear z1 g1 FC EQ
    go_wp2
    go_end0
    exact ⟨rfl, unhide FF⟩
  · have s1 : ¬ (k : Int) < (h.length : Int) := by omega
    have s2 : decide ((k : Int) < (h.length : Int)) = false := decide_eq_false s1
    have FF := hide (show ∀ j, KR R (w.drewN j) p c h k (endK h k e) ∧ w.grownBy (w.drewN j) (some R) from fun j => by
      rw [show endK h k e = e by unfold endK; rw [if_neg hk]]
      exact ⟨z.later (_root_.Go.below_drewN (Below.refl _ _) j), grown_ofK (_root_.Go.below_drewN (Below.refl _ _) j) _⟩)
    generalize hL : h.length = L at *
    clear z hk
    go_enter Tryz.func43, Tryz.ntmps43
    go_wp2_with fail
    go_quiet (fail)
    go_wp2
    go_end0
    exact ⟨rfl, unhide FF _⟩
end
end Go.Proofs.YtpkpnedcecjlbaaGreatDoor
end
/- Conf: the program's reader: count, text, weight. -/
section
namespace Go.Proofs.YtpkpnedcecjlbaaGreatDoor
open Go.ChangeShapes Go.WideShapes Go.ChangeAt Go.RowKit
set_option linter.unusedVariables false

section
variable {R : Nat} {w w' : World} {p : Option Addr} {c : Nat} {h : List Nat} {k e : Nat}
set_option maxHeartbeats 4000000 in
theorem kcount_calls (z : KR R w p c h k e) (m : Nat) (hm : m ≤ 1000) : Calls Tryz.prog 71 #[.pointer (some ⟨R, 0, none⟩), .int .i64 (m : Int)] w (NEndK R w p c h (cntK h k e m)) := by
  have NC := hide (knumber_calls z)
  unfold NEndK at NC
  have EQ := hide (show cntK h k e m = if m < (numK h k e).1 then (0, (numK h k e).2.1, failK (numK h k e).2.2 6) else numK h k e from rfl)
  generalize numK h k e = q at *
  obtain ⟨n, k1, e1⟩ := q
  dsimp only at NC EQ
  clear z
  by_cases hn : m < n
  · have y1 : (m : Int) < (n : Int) := by omega
    have y2 : decide ((m : Int) < (n : Int)) = true := decide_eq_true y1
    rw [if_pos hn] at EQ
    go_enter Tryz.func71, Tryz.ntmps71
    go_wp2_with fail
    go_at_call 40
    refine (unhide NC).mono ?_
    rintro en V1 ⟨rfl, z1, g1⟩
    have FC := hide (kfail_calls z1 6)
    have G1 := hide g1
    clear z1 g1 NC
    go_wp2_with fail
    go_at_call 44
    refine (unhide FC).mono ?_
    rintro en V2 ⟨rfl, z2, g2⟩
    have FF := hide (show NEndK R w p c h (cntK h k e m) (.returned (.int .i64 0)) V2 from by
      rw [unhide EQ]
      exact ⟨rfl, z2, grown_trans (unhide G1) g2⟩)
    clear z2 g2
    go_wp2
    go_ret
    exact unhide FF
  · have y1 : ¬ (m : Int) < (n : Int) := by omega
    have y2 : decide ((m : Int) < (n : Int)) = false := decide_eq_false y1
    rw [if_neg hn] at EQ
    go_enter Tryz.func71, Tryz.ntmps71
    go_wp2_with fail
    go_at_call 40
    refine (unhide NC).mono ?_
    rintro en V1 ⟨rfl, z1, g1⟩
    have FF := hide (show NEndK R w p c h (cntK h k e m) (.returned (.int .i64 (n : Int))) V1 from by
      rw [unhide EQ]
      exact ⟨rfl, z1, g1⟩)
    clear z1 g1 NC EQ
    go_wp2
    go_ret
    exact unhide FF
/-- How a step that tells a text ends. -/
def TEndK (R : Nat) (w : World) (p : Option Addr) (c : Nat) (h : List Nat) (r : List Nat × Nat × Nat) (en : Ending) (w' : World) : Prop := en = .returned (.string (strOf r.1)) ∧ KR R w' p c h r.2.1 r.2.2 ∧ w.grownBy w' (some R)
set_option maxHeartbeats 4000000 in
theorem ktext_calls (z : KR R w p c h k e) : Calls Tryz.prog 41 #[.pointer (some ⟨R, 0, none⟩)] w (TEndK R w p c h (txtK h k e)) := by
  have NC := hide (kcount_calls z 128 (by omega))
  unfold NEndK at NC
  have NL := hide (cntK_le h k e 128)
  have EQ := hide (show txtK h k e = cutK h (cntK h k e 128).2.1 (cntK h k e 128).2.2 (cntK h k e 128).1 from rfl)
  generalize cntK h k e 128 = q at *
  obtain ⟨n, k1, e1⟩ := q
  dsimp only at NC EQ NL
  rw [show ((128 : Nat) : Int) = 128 from rfl] at NC
  clear z
  go_enter Tryz.func41, Tryz.ntmps41
  go_wp2_with fail
  go_at_call 71
  refine (unhide NC).mono ?_
  rintro en V1 ⟨rfl, z1, g1⟩
  have TC := hide (ktake_calls z1 n (by have := unhide NL; omega))
  unfold CEndK at TC
  have G1 := hide g1
  generalize cutK h k1 e1 n = q2 at *
  obtain ⟨b, k2, e2⟩ := q2
  dsimp only at TC EQ
  clear z1 g1 NC
  go_wp2_with fail
  go_at_call 70
  refine (unhide TC).mono ?_
  rintro en V2 ⟨sp, m, cc, rfl, pt, z2, g2⟩
  have hcv := run_string8 m cc pt.len pt.by_
  have FF := hide (show TEndK R w p c h (txtK h k e) (.returned (.string (strOf b))) V2 from by
    rw [unhide EQ]
    exact ⟨rfl, z2, grown_trans (unhide G1) g2⟩)
  clear z2 g2 pt TC EQ
  go_wp2
  go_ret
  exact unhide FF
theorem shl8 (x : Nat) (h : x < 72057594037927936) (t : TypeId) (W : World) : (binOp .shl t (.int .u64 (x : Int)) (.int .u64 8)).run Tryz.prog W = .ok (.int .u64 ((x * 256 : Nat) : Int)) W := by
  have h1 : IntKind.u64.wrap ((x : Int) * 2 ^ 8) = ((x * 256 : Nat) : Int) := by rw [IntKind.wrap_u64]; omega
  rw [← h1]
  rfl
theorem or_add (x q : Nat) (hq : q < 256) : x * 256 ||| q = x * 256 + q := by
  have := Nat.two_pow_add_eq_or_of_lt (i := 8) (b := q) hq x
  rw [Nat.mul_comm] at this
  exact this.symm
theorem or8 (x q : Nat) (h : x < 72057594037927936) (hq : q < 256) (t : TypeId) (W : World) : (binOp .or t (.int .u64 ((x * 256 : Nat) : Int)) (.int .u64 (q : Int))).run Tryz.prog W = .ok (.int .u64 ((x * 256 + q : Nat) : Int)) W := by
  have h1 : IntKind.u64.wrap ((BitVec.ofInt 64 ((x * 256 : Nat) : Int) ||| BitVec.ofInt 64 (q : Int)).toNat : Int) = ((x * 256 + q : Nat) : Int) := by
    rw [BitVec.ofInt_natCast, BitVec.ofInt_natCast, BitVec.toNat_or, BitVec.toNat_ofNat, BitVec.toNat_ofNat, Nat.mod_eq_of_lt (by omega), Nat.mod_eq_of_lt (by omega), or_add x q hq, IntKind.wrap_u64]
    omega
  rw [← h1]
  rfl
end
end Go.Proofs.YtpkpnedcecjlbaaGreatDoor
end
