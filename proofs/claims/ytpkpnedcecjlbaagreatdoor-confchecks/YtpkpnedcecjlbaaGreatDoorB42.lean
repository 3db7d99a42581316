/- Conf: the document's PutCommand. -/
import Derived.Test.YtpkpnedcecjlbaaGreatDoorB41
import Derived.Test.YtpkpnedcecjlbaaGreatDoorB31
import Derived.Test.YtpkpnedcecjlbaaGreatDoorB16
import Derived.Test.YtpkpnedcecjlbaaGreatDoorB24
section
namespace Go.Proofs.YtpkpnedcecjlbaaGreatDoor
open Go.ChangeShapes Go.WideShapes Go.ChangeAt Go.RowKit
set_option linter.unusedVariables false

theorem cmdB_seq (c : Cmd) : [] ++ numB c.act.toNat ++ numB c.cli.toNat ++ numB c.seq.toNat ++ numB (c.exp + 1).toNat ++ txB c.host ++ txB c.pre ++ txB c.pool ++ tgsB c.ts = cmdB c := by
  simp [cmdB, List.append_assoc]
set_option maxRecDepth 20000 in
set_option maxHeartbeats 16000000 in
theorem rput8_calls (c : Cmd) (a : Option Addr) (tc : Nat) (w : World) (h : CmdAt w c a tc) : Calls Tryz.prog 9 #[cmdVal c a tc] w (PutKE c w) := by
  have bX := hide (show Below w.heap.size w (w.alloc (.cells (cmdRow c a tc) 25)) from (Below.refl _ _).alloc (Nat.le_refl _) _)
  have X1 := hide (heap_new w (.cells (cmdRow c a tc) 25))
  have SX := hide (show (w.alloc (.cells (cmdRow c a tc) 25)).heap.size = w.heap.size + 1 by simp)
  have CK := hide (checkR_calls c a tc _ (h.later (unhide bX)))
  have HTT := hide (h.tgs.later (unhide bX))
  by_cases hck : checkC c = 0
  · as_aux_lemma =>
    obtain ⟨p1, p2, p3, p4, p5⟩ := check_parts hck
    obtain ⟨s1, s2, s3, s4, s5⟩ := check_small hck
    obtain ⟨na, nc, ns, ne, e1, e2, e3, e4, l1, l2, l3, l4⟩ := nums_nat p1
    have PV := hide (show putV c = cmdB c by unfold putV; rw [if_pos hck])
    have EQ := hide (cmdB_seq c)
    have PE := hide (show PutKE c w = fun en w' => ∃ sp n cc, en = .returned (.tuple #[.slice sp n cc, .int .i64 0]) ∧ (putV c).length = n ∧ OwnB w.heap.size w' sp cc (putV c) ∧ Below w.heap.size w w' by unfold PutKE; rw [hck]; rfl)
    rw [hck] at CK
    rw [show ((0 : Nat) : Int) = 0 from rfl] at CK
    rw [unhide PE]
    rw [e1, e2, e3, e4, show ((na : Int)).toNat = na by omega, show ((nc : Int)).toNat = nc by omega, show ((ns : Int)).toNat = ns by omega, show ((ne : Int)).toNat = ne by omega] at EQ
    rw [unhide PV]
    generalize cmdB c = CB at *
    have hwr : IntKind.i64.wrap (c.exp + 1) = (ne : Int) := by rw [e4, IntKind.wrap_i64]; omega
    clear h hck p1 p2 p3 p4 PV PE e4
    unfold cmdVal cmdRow at *
    obtain ⟨act, cli, seq, exp, host, pre, pool, ts⟩ := c
    simp only at *
    subst e1 e2 e3
    have N1 := hide (numB_len6 na (by omega))
    have N2 := hide (numB_len6 nc (by omega))
    have N3 := hide (numB_len6 ns (by omega))
    have N4 := hide (numB_len6 ne (by omega))
    have T1 := hide (txB_len host (by omega))
    have T2 := hide (txB_len pre (by omega))
    have T3 := hide (txB_len pool (by omega))
    go_enter Tryz.func9, Tryz.ntmps9
    go_wp2_with fail
    generalize hD : w.heap.size = D at *
    generalize (w.alloc (.cells #[.int .i64 (na : Int), .int .i64 (nc : Int), .int .i64 (ns : Int), .int .i64 exp, .string host, .string pre, .string pool, .slice a ts.length tc] 25)) = V0 at *
    have KF := hide (fun (W : World) (hb : Below V0.heap.size V0 W) => show W.cell? ⟨D, 0, none⟩ = some (.int .i64 (na : Int)) ∧ W.cell? ⟨D, 1, none⟩ = some (.int .i64 (nc : Int)) ∧ W.cell? ⟨D, 2, none⟩ = some (.int .i64 (ns : Int)) ∧ W.cell? ⟨D, 3, none⟩ = some (.int .i64 exp) ∧ W.cell? ⟨D, 4, none⟩ = some (.string host) ∧ W.cell? ⟨D, 5, none⟩ = some (.string pre) ∧ W.cell? ⟨D, 6, none⟩ = some (.string pool) ∧ W.cell? ⟨D, 7, none⟩ = some (.slice a ts.length tc) from by
      have y := later_block hb (unhide X1)
      exact ⟨box_cell y 0 _ rfl, box_cell y 1 _ rfl, box_cell y 2 _ rfl, box_cell y 3 _ rfl, box_cell y 4 _ rfl, box_cell y 5 _ rfl, box_cell y 6 _ rfl, box_cell y 7 _ rfl⟩)
    refine (unhide CK).mono ?_
    rintro e V1 ⟨rfl, v1⟩
    have B1 := hide v1
    have D1 := hide (v1.trans (((Below.refl V1.heap.size V1).drew).mono v1.size))
    have bE := hide (show Below V1.drew.heap.size V1.drew (V1.drew.alloc (.cells #[] 5)) from (Below.refl _ _).alloc (Nat.le_refl _) _)
    have E1 := hide ((unhide D1).trans ((unhide bE).mono (unhide D1).size))
    have OE := hide (OwnB.empty V1.drew V0.heap.size (unhide D1).size)
    have SE := hide (unhide E1).size
    have C1 := hide (rnum8_calls V0.heap.size (l := []) rfl (unhide OE) na (by omega) (by decide) (unhide SE))
    unfold AddK at C1
    have KB := hide (show V1.drew.cell? ⟨D, 0, none⟩ = some (.int .i64 (na : Int)) ∧ V1.drew.cell? ⟨D, 1, none⟩ = some (.int .i64 (nc : Int)) from ⟨(unhide KF _ (unhide D1)).1, (unhide KF _ (unhide D1)).2.1⟩)
    have KA := hide (show (V1.drew.alloc (.cells #[] 5)).cell? ⟨D, 0, none⟩ = some (.int .i64 (na : Int)) ∧ (V1.drew.alloc (.cells #[] 5)).cell? ⟨D, 1, none⟩ = some (.int .i64 (nc : Int)) from ⟨(unhide KF _ (unhide E1)).1, (unhide KF _ (unhide E1)).2.1⟩)
    clear v1 CK
    go_wp2_with fail
    refine wp_region_held_drew (S := fun w' => w'.cell? ⟨D, 0, none⟩ = some (.int .i64 (na : Int)) ∧ w'.cell? ⟨D, 1, none⟩ = some (.int .i64 (nc : Int))) (by kernel_rfl) ?_ (fun hHeld => ?_)
    · try dsimp only
      first | exact unhide K3 | exact unhide K2 | exact unhide KA | exact unhide KB
    refine hT 1 ?_
    refine hT 2 ?_
    refine hT 4 ?_
    refine hT 5 ?_
    refine hO 0 (fun K hK => ?_)
    go_simp
    go_wp2_with fail
    refine hK.out _ _ ?_ (fun hHeld => ?_)
    · try dsimp only
      first | exact unhide K3 | exact unhide K2 | exact unhide KA | exact unhide KB
    clear hK K
    refine hP ?_
    refine hO 3 (fun K hK => ?_)
    go_simp
    first
      | (have hV : U1 = U1 := rfl
         clear hV
         go_at_call 27
         refine (unhide C2).mono ?_
         rintro e U2 ⟨q2, m2, c2, rfl, hn2, ho2, hg2⟩
         have HU2 := hide (below_own (Nat.le_refl _) (unhide HO1) hg2 (unhide HU1).size (unhide HU1))
         have K3 := hide (show U2.cell? ⟨D, 0, none⟩ = some (.int .i64 (na : Int)) ∧ U2.cell? ⟨D, 1, none⟩ = some (.int .i64 (nc : Int)) from ⟨(unhide KF _ (unhide HU2)).1, (unhide KF _ (unhide HU2)).2.1⟩)
         have HO2 := hide ho2
         clear ho2 hg2)
      | (go_at_call 27
         refine (unhide C1).mono ?_
         rintro e U1 ⟨q1, m1, c1, rfl, hn1, ho1, hg1⟩
         have HU1 := hide (below_own (Nat.le_refl _) (unhide OE) hg1 (unhide SE) (unhide E1))
         have K2 := hide (show U1.cell? ⟨D, 0, none⟩ = some (.int .i64 (na : Int)) ∧ U1.cell? ⟨D, 1, none⟩ = some (.int .i64 (nc : Int)) from ⟨(unhide KF _ (unhide HU1)).1, (unhide KF _ (unhide HU1)).2.1⟩)
         have HO1 := hide ho1
         have C2 := hide (rnum8_calls V0.heap.size (unhide hn1) (unhide HO1) nc (by omega) (by have := unhide N1; rw [List.length_append]; simp only [List.length_nil]; omega) (unhide HU1).size)
         unfold AddK at C2
         clear ho1 hg1)
    go_wp2_with fail
    refine hK.out _ _ ?_ (fun hHeld => ?_)
    · try dsimp only
      first | exact unhide K3 | exact unhide K2 | exact unhide KA | exact unhide KB
    clear hK K
    refine hP ?_
    refine hO 6 (fun K hK => ?_)
    go_simp
    first
      | (have hV : U1 = U1 := rfl
         clear hV
         go_at_call 27
         refine (unhide C2).mono ?_
         rintro e U2 ⟨q2, m2, c2, rfl, hn2, ho2, hg2⟩
         have HU2 := hide (below_own (Nat.le_refl _) (unhide HO1) hg2 (unhide HU1).size (unhide HU1))
         have K3 := hide (show U2.cell? ⟨D, 0, none⟩ = some (.int .i64 (na : Int)) ∧ U2.cell? ⟨D, 1, none⟩ = some (.int .i64 (nc : Int)) from ⟨(unhide KF _ (unhide HU2)).1, (unhide KF _ (unhide HU2)).2.1⟩)
         have HO2 := hide ho2
         clear ho2 hg2)
      | (go_at_call 27
         refine (unhide C1).mono ?_
         rintro e U1 ⟨q1, m1, c1, rfl, hn1, ho1, hg1⟩
         have HU1 := hide (below_own (Nat.le_refl _) (unhide OE) hg1 (unhide SE) (unhide E1))
         have K2 := hide (show U1.cell? ⟨D, 0, none⟩ = some (.int .i64 (na : Int)) ∧ U1.cell? ⟨D, 1, none⟩ = some (.int .i64 (nc : Int)) from ⟨(unhide KF _ (unhide HU1)).1, (unhide KF _ (unhide HU1)).2.1⟩)
         have HO1 := hide ho1
         have C2 := hide (rnum8_calls V0.heap.size (unhide hn1) (unhide HO1) nc (by omega) (by have := unhide N1; rw [List.length_append]; simp only [List.length_nil]; omega) (unhide HU1).size)
         unfold AddK at C2
         clear ho1 hg1)
    go_wp2_with fail
    refine hK.out _ _ ?_ (fun hHeld => ?_)
    · try dsimp only
      first | exact unhide K3 | exact unhide K2 | exact unhide KA | exact unhide KB
    clear hK K
    refine hP ?_
    refine hT 7 ?_
    refine wpAnyH_done (by kernel_rfl) ?_ _
    clear C1 C2 KB KA K2 K3 hHeld
    have L2 := hide (show ([] ++ numB na ++ numB nc).length ≤ 12 by have := unhide N1; have := unhide N2; simp only [List.nil_append, List.length_append]; omega)
    have D2 := hide ((unhide HU2).trans (((Below.refl U2.heap.size U2).drew).mono (unhide HU2).size))
    have OD2 := hide ((unhide HO2).later ((Below.refl U2.heap.size U2).drew))
    have C3 := hide (rnum8_calls V0.heap.size (unhide hn2) (unhide OD2) ns (by omega) (by have := unhide L2; omega) (unhide D2).size)
    unfold AddK at C3
    have KB := hide (show U2.drew.cell? ⟨D, 2, none⟩ = some (.int .i64 (ns : Int)) ∧ U2.drew.cell? ⟨D, 3, none⟩ = some (.int .i64 exp) from ⟨(unhide KF _ (unhide D2)).2.2.1, (unhide KF _ (unhide D2)).2.2.2.1⟩)
    go_wp2_with fail
    refine wp_region_held_drew (S := fun w' => w'.cell? ⟨D, 2, none⟩ = some (.int .i64 (ns : Int)) ∧ w'.cell? ⟨D, 3, none⟩ = some (.int .i64 exp)) (by kernel_rfl) ?_ (fun hHeld => ?_)
    · try dsimp only
      first | exact unhide K3 | exact unhide K2 | exact unhide KB
    refine hT 0 ?_
    refine hT 1 ?_
    refine hT 2 ?_
    refine hT 4 ?_
    refine hT 5 ?_
    refine hT 6 ?_
    refine hO 3 (fun K hK => ?_)
    go_simp
    first
      | (have hV : U3 = U3 := rfl
         clear hV
         go_at_call 27
         refine (unhide C4).mono ?_
         rintro e U4 ⟨q4, m4, c4, rfl, hn4, ho4, hg4⟩
         have HU4 := hide (below_own (Nat.le_refl _) (unhide HO3) hg4 (unhide HU3).size (unhide HU3))
         have K3 := hide (show U4.cell? ⟨D, 2, none⟩ = some (.int .i64 (ns : Int)) ∧ U4.cell? ⟨D, 3, none⟩ = some (.int .i64 exp) from ⟨(unhide KF _ (unhide HU4)).2.2.1, (unhide KF _ (unhide HU4)).2.2.2.1⟩)
         have HO4 := hide ho4
         clear ho4 hg4)
      | (go_at_call 27
         refine (unhide C3).mono ?_
         rintro e U3 ⟨q3, m3, c3, rfl, hn3, ho3, hg3⟩
         have HU3 := hide (below_own (Nat.le_refl _) (unhide OD2) hg3 (unhide D2).size (unhide D2))
         have K2 := hide (show U3.cell? ⟨D, 2, none⟩ = some (.int .i64 (ns : Int)) ∧ U3.cell? ⟨D, 3, none⟩ = some (.int .i64 exp) from ⟨(unhide KF _ (unhide HU3)).2.2.1, (unhide KF _ (unhide HU3)).2.2.2.1⟩)
         have HO3 := hide ho3
         have C4 := hide (rnum8_calls V0.heap.size (unhide hn3) (unhide HO3) ne (by omega) (by have h1 := unhide L2; have h2 := unhide N3; rw [List.length_append]; omega) (unhide HU3).size)
         unfold AddK at C4
         clear ho3 hg3)
    go_wp2_with fail
    refine hK.out _ _ ?_ (fun hHeld => ?_)
    · try dsimp only
      first | exact unhide K3 | exact unhide K2 | exact unhide KB
    clear hK K
    refine hP ?_
    refine hO 7 (fun K hK => ?_)
    go_simp
    first
      | (have hV : U3 = U3 := rfl
         clear hV
         go_at_call 27
         refine (unhide C4).mono ?_
         rintro e U4 ⟨q4, m4, c4, rfl, hn4, ho4, hg4⟩
         have HU4 := hide (below_own (Nat.le_refl _) (unhide HO3) hg4 (unhide HU3).size (unhide HU3))
         have K3 := hide (show U4.cell? ⟨D, 2, none⟩ = some (.int .i64 (ns : Int)) ∧ U4.cell? ⟨D, 3, none⟩ = some (.int .i64 exp) from ⟨(unhide KF _ (unhide HU4)).2.2.1, (unhide KF _ (unhide HU4)).2.2.2.1⟩)
         have HO4 := hide ho4
         clear ho4 hg4)
      | (go_at_call 27
         refine (unhide C3).mono ?_
         rintro e U3 ⟨q3, m3, c3, rfl, hn3, ho3, hg3⟩
         have HU3 := hide (below_own (Nat.le_refl _) (unhide OD2) hg3 (unhide D2).size (unhide D2))
         have K2 := hide (show U3.cell? ⟨D, 2, none⟩ = some (.int .i64 (ns : Int)) ∧ U3.cell? ⟨D, 3, none⟩ = some (.int .i64 exp) from ⟨(unhide KF _ (unhide HU3)).2.2.1, (unhide KF _ (unhide HU3)).2.2.2.1⟩)
         have HO3 := hide ho3
         have C4 := hide (rnum8_calls V0.heap.size (unhide hn3) (unhide HO3) ne (by omega) (by have h1 := unhide L2; have h2 := unhide N3; rw [List.length_append]; omega) (unhide HU3).size)
         unfold AddK at C4
         clear ho3 hg3)
    go_wp2_with fail
    refine hK.out _ _ ?_ (fun hHeld => ?_)
    · try dsimp only
      first | exact unhide K3 | exact unhide K2 | exact unhide KB
    clear hK K
    refine hP ?_
    refine hT 8 ?_
    refine wpAnyH_done (by kernel_rfl) ?_ _
    clear C3 C4 KB K2 K3 hHeld
    have L4 := hide (show ([] ++ numB na ++ numB nc ++ numB ns ++ numB ne).length ≤ 24 by have := unhide L2; have := unhide N3; have := unhide N4; rw [List.length_append, List.length_append]; omega)
    have D4 := hide ((unhide HU4).trans (((Below.refl U4.heap.size U4).drew).mono (unhide HU4).size))
    have OD4 := hide ((unhide HO4).later ((Below.refl U4.heap.size U4).drew))
    generalize [] ++ numB na ++ numB nc ++ numB ns ++ numB ne = L at *
    have C5 := hide (rtext8_calls V0.heap.size (unhide hn4) (unhide OD4) host s1 (by have := unhide L4; omega) (unhide D4).size)
    unfold AddK at C5
    have KB := hide (show U4.drew.cell? ⟨D, 4, none⟩ = some (.string host) ∧ U4.drew.cell? ⟨D, 5, none⟩ = some (.string pre) ∧ U4.drew.cell? ⟨D, 6, none⟩ = some (.string pool) from ⟨(unhide KF _ (unhide D4)).2.2.2.2.1, (unhide KF _ (unhide D4)).2.2.2.2.2.1, (unhide KF _ (unhide D4)).2.2.2.2.2.2.1⟩)
    go_wp2_with fail
    refine wp_region_held_drew (S := fun w' => w'.cell? ⟨D, 4, none⟩ = some (.string host) ∧ w'.cell? ⟨D, 5, none⟩ = some (.string pre) ∧ w'.cell? ⟨D, 6, none⟩ = some (.string pool)) (by kernel_rfl) ?_ (fun hHeld => ?_)
    · try dsimp only
      first | exact unhide K4 | exact unhide K3 | exact unhide K2 | exact unhide KB
    refine hT 0 ?_
    refine hT 1 ?_
    refine hT 2 ?_
    refine hT 4 ?_
    refine hT 5 ?_
    refine hT 7 ?_
    refine hT 8 ?_
    refine hO 3 (fun K hK => ?_)
    go_simp
    first
      | (have hV : U6 = U6 := rfl
         clear hV
         go_at_call 28
         refine (unhide C7).mono ?_
         rintro e U7 ⟨q7, m7, c7, rfl, hn7, ho7, hg7⟩
         have HU7 := hide (below_own (Nat.le_refl _) (unhide HO6) hg7 (unhide HU6).size (unhide HU6))
         have K4 := hide (show U7.cell? ⟨D, 4, none⟩ = some (.string host) ∧ U7.cell? ⟨D, 5, none⟩ = some (.string pre) ∧ U7.cell? ⟨D, 6, none⟩ = some (.string pool) from ⟨(unhide KF _ (unhide HU7)).2.2.2.2.1, (unhide KF _ (unhide HU7)).2.2.2.2.2.1, (unhide KF _ (unhide HU7)).2.2.2.2.2.2.1⟩)
         have HO7 := hide ho7
         clear ho7 hg7)
      | (have hV : U5 = U5 := rfl
         clear hV
         go_at_call 28
         refine (unhide C6).mono ?_
         rintro e U6 ⟨q6, m6, c6, rfl, hn6, ho6, hg6⟩
         have HU6 := hide (below_own (Nat.le_refl _) (unhide HO5) hg6 (unhide HU5).size (unhide HU5))
         have K3 := hide (show U6.cell? ⟨D, 4, none⟩ = some (.string host) ∧ U6.cell? ⟨D, 5, none⟩ = some (.string pre) ∧ U6.cell? ⟨D, 6, none⟩ = some (.string pool) from ⟨(unhide KF _ (unhide HU6)).2.2.2.2.1, (unhide KF _ (unhide HU6)).2.2.2.2.2.1, (unhide KF _ (unhide HU6)).2.2.2.2.2.2.1⟩)
         have HO6 := hide ho6
         have C7 := hide (rtext8_calls V0.heap.size (unhide hn6) (unhide HO6) pool s3 (by have h1 := unhide L4; have h2 := unhide T1; have h3 := unhide T2; rw [List.length_append, List.length_append]; omega) (unhide HU6).size)
         unfold AddK at C7
         clear ho6 hg6)
      | (go_at_call 28
         refine (unhide C5).mono ?_
         rintro e U5 ⟨q5, m5, c5, rfl, hn5, ho5, hg5⟩
         have HU5 := hide (below_own (Nat.le_refl _) (unhide OD4) hg5 (unhide D4).size (unhide D4))
         have K2 := hide (show U5.cell? ⟨D, 4, none⟩ = some (.string host) ∧ U5.cell? ⟨D, 5, none⟩ = some (.string pre) ∧ U5.cell? ⟨D, 6, none⟩ = some (.string pool) from ⟨(unhide KF _ (unhide HU5)).2.2.2.2.1, (unhide KF _ (unhide HU5)).2.2.2.2.2.1, (unhide KF _ (unhide HU5)).2.2.2.2.2.2.1⟩)
         have HO5 := hide ho5
         have C6 := hide (rtext8_calls V0.heap.size (unhide hn5) (unhide HO5) pre s2 (by have h1 := unhide L4; have h2 := unhide T1; rw [List.length_append]; omega) (unhide HU5).size)
         unfold AddK at C6
         clear ho5 hg5)
    go_wp2_with fail
    refine hK.out _ _ ?_ (fun hHeld => ?_)
    · try dsimp only
      first | exact unhide K4 | exact unhide K3 | exact unhide K2 | exact unhide KB
    clear hK K
    refine hP ?_
    refine hO 6 (fun K hK => ?_)
    go_simp
    first
      | (have hV : U6 = U6 := rfl
         clear hV
         go_at_call 28
         refine (unhide C7).mono ?_
         rintro e U7 ⟨q7, m7, c7, rfl, hn7, ho7, hg7⟩
         have HU7 := hide (below_own (Nat.le_refl _) (unhide HO6) hg7 (unhide HU6).size (unhide HU6))
         have K4 := hide (show U7.cell? ⟨D, 4, none⟩ = some (.string host) ∧ U7.cell? ⟨D, 5, none⟩ = some (.string pre) ∧ U7.cell? ⟨D, 6, none⟩ = some (.string pool) from ⟨(unhide KF _ (unhide HU7)).2.2.2.2.1, (unhide KF _ (unhide HU7)).2.2.2.2.2.1, (unhide KF _ (unhide HU7)).2.2.2.2.2.2.1⟩)
         have HO7 := hide ho7
         clear ho7 hg7)
      | (have hV : U5 = U5 := rfl
         clear hV
         go_at_call 28
         refine (unhide C6).mono ?_
         rintro e U6 ⟨q6, m6, c6, rfl, hn6, ho6, hg6⟩
         have HU6 := hide (below_own (Nat.le_refl _) (unhide HO5) hg6 (unhide HU5).size (unhide HU5))
         have K3 := hide (show U6.cell? ⟨D, 4, none⟩ = some (.string host) ∧ U6.cell? ⟨D, 5, none⟩ = some (.string pre) ∧ U6.cell? ⟨D, 6, none⟩ = some (.string pool) from ⟨(unhide KF _ (unhide HU6)).2.2.2.2.1, (unhide KF _ (unhide HU6)).2.2.2.2.2.1, (unhide KF _ (unhide HU6)).2.2.2.2.2.2.1⟩)
         have HO6 := hide ho6
         have C7 := hide (rtext8_calls V0.heap.size (unhide hn6) (unhide HO6) pool s3 (by have h1 := unhide L4; have h2 := unhide T1; have h3 := unhide T2; rw [List.length_append, List.length_append]; omega) (unhide HU6).size)
         unfold AddK at C7
         clear ho6 hg6)
      | (go_at_call 28
         refine (unhide C5).mono ?_
         rintro e U5 ⟨q5, m5, c5, rfl, hn5, ho5, hg5⟩
         have HU5 := hide (below_own (Nat.le_refl _) (unhide OD4) hg5 (unhide D4).size (unhide D4))
         have K2 := hide (show U5.cell? ⟨D, 4, none⟩ = some (.string host) ∧ U5.cell? ⟨D, 5, none⟩ = some (.string pre) ∧ U5.cell? ⟨D, 6, none⟩ = some (.string pool) from ⟨(unhide KF _ (unhide HU5)).2.2.2.2.1, (unhide KF _ (unhide HU5)).2.2.2.2.2.1, (unhide KF _ (unhide HU5)).2.2.2.2.2.2.1⟩)
         have HO5 := hide ho5
         have C6 := hide (rtext8_calls V0.heap.size (unhide hn5) (unhide HO5) pre s2 (by have h1 := unhide L4; have h2 := unhide T1; rw [List.length_append]; omega) (unhide HU5).size)
         unfold AddK at C6
         clear ho5 hg5)
    go_wp2_with fail
    refine hK.out _ _ ?_ (fun hHeld => ?_)
    · try dsimp only
      first | exact unhide K4 | exact unhide K3 | exact unhide K2 | exact unhide KB
    clear hK K
    refine hP ?_
    refine hO 9 (fun K hK => ?_)
    go_simp
    first
      | (have hV : U6 = U6 := rfl
         clear hV
         go_at_call 28
         refine (unhide C7).mono ?_
         rintro e U7 ⟨q7, m7, c7, rfl, hn7, ho7, hg7⟩
         have HU7 := hide (below_own (Nat.le_refl _) (unhide HO6) hg7 (unhide HU6).size (unhide HU6))
         have K4 := hide (show U7.cell? ⟨D, 4, none⟩ = some (.string host) ∧ U7.cell? ⟨D, 5, none⟩ = some (.string pre) ∧ U7.cell? ⟨D, 6, none⟩ = some (.string pool) from ⟨(unhide KF _ (unhide HU7)).2.2.2.2.1, (unhide KF _ (unhide HU7)).2.2.2.2.2.1, (unhide KF _ (unhide HU7)).2.2.2.2.2.2.1⟩)
         have HO7 := hide ho7
         clear ho7 hg7)
      | (have hV : U5 = U5 := rfl
         clear hV
         go_at_call 28
         refine (unhide C6).mono ?_
         rintro e U6 ⟨q6, m6, c6, rfl, hn6, ho6, hg6⟩
         have HU6 := hide (below_own (Nat.le_refl _) (unhide HO5) hg6 (unhide HU5).size (unhide HU5))
         have K3 := hide (show U6.cell? ⟨D, 4, none⟩ = some (.string host) ∧ U6.cell? ⟨D, 5, none⟩ = some (.string pre) ∧ U6.cell? ⟨D, 6, none⟩ = some (.string pool) from ⟨(unhide KF _ (unhide HU6)).2.2.2.2.1, (unhide KF _ (unhide HU6)).2.2.2.2.2.1, (unhide KF _ (unhide HU6)).2.2.2.2.2.2.1⟩)
         have HO6 := hide ho6
         have C7 := hide (rtext8_calls V0.heap.size (unhide hn6) (unhide HO6) pool s3 (by have h1 := unhide L4; have h2 := unhide T1; have h3 := unhide T2; rw [List.length_append, List.length_append]; omega) (unhide HU6).size)
         unfold AddK at C7
         clear ho6 hg6)
      | (go_at_call 28
         refine (unhide C5).mono ?_
         rintro e U5 ⟨q5, m5, c5, rfl, hn5, ho5, hg5⟩
         have HU5 := hide (below_own (Nat.le_refl _) (unhide OD4) hg5 (unhide D4).size (unhide D4))
         have K2 := hide (show U5.cell? ⟨D, 4, none⟩ = some (.string host) ∧ U5.cell? ⟨D, 5, none⟩ = some (.string pre) ∧ U5.cell? ⟨D, 6, none⟩ = some (.string pool) from ⟨(unhide KF _ (unhide HU5)).2.2.2.2.1, (unhide KF _ (unhide HU5)).2.2.2.2.2.1, (unhide KF _ (unhide HU5)).2.2.2.2.2.2.1⟩)
         have HO5 := hide ho5
         have C6 := hide (rtext8_calls V0.heap.size (unhide hn5) (unhide HO5) pre s2 (by have h1 := unhide L4; have h2 := unhide T1; rw [List.length_append]; omega) (unhide HU5).size)
         unfold AddK at C6
         clear ho5 hg5)
    go_wp2_with fail
    refine hK.out _ _ ?_ (fun hHeld => ?_)
    · try dsimp only
      first | exact unhide K4 | exact unhide K3 | exact unhide K2 | exact unhide KB
    clear hK K
    refine hP ?_
    refine hT 10 ?_
    refine wpAnyH_done (by kernel_rfl) ?_ _
    clear C5 C6 C7 KB K2 K3 K4 hHeld
    have u0 := (unhide KF _ (unhide HU7)).2.2.2.2.2.2.2
    have LT := hide (show (L ++ txB host ++ txB pre ++ txB pool).length ≤ 3000100 by
      have h1 := unhide T1
      have h2 := unhide T2
      have h3 := unhide T3
      have h4 := unhide L4
      rw [List.length_append, List.length_append, List.length_append]
      omega)
    have C8 := hide (rtargets8_calls V0.heap.size (unhide HTT) (unhide HU7) (Nat.le_refl _) (unhide hn7) (unhide HO7) ts.length tc rfl (fun t ht => s5 t ht) (by have := unhide LT; have h2 : 1000014 * ts.length ≤ 1000014 * 16 := Nat.mul_le_mul_left _ p5; omega) (by omega) (unhide HU7).size)
    unfold AddK at C8
    go_wp2_with fail
    refine (unhide C8).mono ?_
    rintro e U8 ⟨q8, m8, c8, rfl, hn8, ho8, hg8⟩
    have HU8 := hide (below_own (Nat.le_refl _) (unhide HO7) hg8 (unhide HU7).size (unhide HU7))
    rw [unhide EQ] at hn8 ho8
    have FF := hide (show Below D w U8 from by
      have := (unhide bX).trans ((unhide HU8).mono (by have := unhide SX; omega))
      exact this)
    have OO := hide (ho8.mono (base' := D) (by have := unhide SX; omega))
    clear ho8 hg8 C8
    go_wp2
    go_ret2
    rw [hD]
    exact ⟨q8, m8, c8, rfl, unhide hn8, unhide OO, unhide FF⟩
  · as_aux_lemma =>
    have hk1 : ¬ (checkC c : Int) = 0 := by omega
    have hk2 : ((checkC c : Int) == 0) = false := by simp [hck]
    have hk3 : ((checkC c : Int) != 0) = true := by simp [hck]
    have FF := hide (show ∀ W, Below w.heap.size w W → PutKE c w (.returned (.tuple #[.slice none 0 0, .int .i64 (checkC c : Int)])) W from fun W u => by
      have PV : putV c = [] := by unfold putV; rw [if_neg hck]
      unfold PutKE
      rw [PV]
      exact ⟨none, 0, 0, rfl, rfl, OwnB.ofNil _ _, u⟩)
    generalize (checkC c : Int) = ci at *
    clear h hck HTT
    unfold cmdVal cmdRow at *
    obtain ⟨act, cli, seq, exp, host, pre, pool, ts⟩ := c
    simp only at *
    go_enter Tryz.func9, Tryz.ntmps9
    go_wp2_with fail
    generalize (w.alloc (.cells #[.int .i64 act, .int .i64 cli, .int .i64 seq, .int .i64 exp, .string host, .string pre, .string pool, .slice a ts.length tc] 25)) = V0 at *
    refine (unhide CK).mono ?_
    rintro e V1 ⟨rfl, v1⟩
    have F1 := hide (unhide FF V1 ((unhide bX).trans (v1.mono (unhide bX).size)))
    clear v1 CK FF
    go_wp2
    go_ret2
    exact unhide F1
end Go.Proofs.YtpkpnedcecjlbaaGreatDoor
end
/- Conf: targets copied by append, however many. -/
section
namespace Go.Proofs.YtpkpnedcecjlbaaGreatDoor
open Go.ChangeShapes Go.WideShapes Go.ChangeAt Go.RowKit
set_option linter.unusedVariables false

theorem run_cloneL {w : World} (t ty e : TypeId) (i : TypeInfo) (z : Value) (size bytes : Nat) (ht : Tryz.prog.underlying t = some (.slice e)) (hi : Tryz.prog.info? e = some i) (hz : i.zero = some z) (hsize : i.size = size) (hby : i.bytes = bytes) (hzs : z.cells.size = size) (hsz : 0 < size)
    (E : Nat) (hE : w.heap[E]? = some (.cells #[] e (0, 0))) (ad : Option Addr) (m c : Nat) (hn : ad = none → m = 0 ∧ c = 0) (news : List Value) (hl : news.length = m * size)
    (hnews : ∀ b, ad = some b → ∀ j u, news[j]? = some u → w.cell? (b.add j) = some u) (h1 : ∀ u ∈ news, u.oneCell' = true) (hm : m ≤ 140737488355328) (hbytes : m * bytes ≤ 140737488355328) :
    ∃ g c' w', (Builtin.append_ #[t, t] ty #[.slice (some ⟨E, 0, none⟩) 0 0, .slice ad m c]).run Tryz.prog w = .ok (.slice (some ⟨g, 0, none⟩) m c') w' ∧ w'.ownsRow E e size (.slice (some ⟨g, 0, none⟩) m c') m news ∧ w.grownBy w' (some E) ∧ (g = E ∨ g = w.heap.size) := by
  have he : w.ownsRow E e size (.slice (some ⟨E, 0, none⟩) 0 0) 0 [] := ⟨by simp, .inr ⟨E, 0, #[], rfl, Nat.le_refl _, hE, Nat.le_refl _, by simp [maxLen], by simp, by simp⟩⟩
  have hEl : E < w.heap.size := (Array.getElem?_eq_some_iff.1 hE).1
  cases ad with
  | none =>
    obtain ⟨rfl, rfl⟩ := hn rfl
    have hz : news = [] := List.eq_nil_of_length_eq_zero (by simpa using hl)
    subst hz
    have hrun := run_append_owned_none (P := Tryz.prog) (w := w) E t ty e i size ht hi _ _ _ he
    exact ⟨E, 0, w, hrun, he, grown_refl _ _, .inl rfl⟩
  | some b =>
    obtain ⟨v', w', hrun, h2, h3, h4, h5⟩ := run_append_own_at (P := Tryz.prog) w E t ty e i z size bytes ht hi hz hsize hby hzs hsz _ _ _ he b m c news hl (hnews b rfl) h1 (by simp only [maxLen]; omega) (by rw [Nat.zero_add]; exact hbytes) (by omega)
    rcases h2.2 with ⟨hv, h0⟩ | ⟨g, cap, cur, hv, r⟩
    · have := (h4.1 hv).1
      cases this
    · subst hv
      rw [Nat.zero_add, List.nil_append] at h2
      exact ⟨g, cap, w', by rw [hrun, Nat.zero_add], h2, h3, h5.imp (fun e => Option.some.inj e) (fun e => Option.some.inj e)⟩
theorem wpList_cloneT {w : World} {ops : Array Oper} {rest : List Oper} {o : Oper} {a : Act} {Q : Exit → Act → World → Prop} (hgd : o.guard = none) (s x : Operand)
    (ho : o.op = .call { callee := .builtin .append, args := #[s, x], argTypes := #[23, 23] })
    (E : Nat) (hs : a.eval s = .slice (some ⟨E, 0, none⟩) 0 0) (hE : w.heap[E]? = some (.cells #[] 43 (0, 0))) (ad : Option Addr) (m c : Nat) (hx : a.eval x = .slice ad m c) (l : List Tg) (hl : l.length = m) (hT : TgsAt w ad l) (hn : ad = none → c = 0) (hb : m * 24 ≤ 140737488355328)
    (hk : ∀ g c' w', OwnT E w' (some ⟨g, 0, none⟩) c' l → w.grownBy w' (some E) → wpList Tryz.prog ops Q rest (a.put o.dst (.slice (some ⟨g, 0, none⟩) m c')) w') :
    wpList Tryz.prog ops Q (o :: rest) a w := by
  subst hl
  refine wpList_plain hgd fun K hK => ?_
  obtain ⟨i0, hi, hz0, hz1, hz2⟩ := info_parts infoT
  obtain ⟨g, c', w', hrun, h2, h3, h4⟩ := run_cloneL 23 o.type 43 i0 _ 2 24 Tryz.underlying23 hi hz0 hz1 hz2 rfl (by omega) E hE ad l.length c (fun e => ⟨by subst e; exact hT.nil, hn e⟩) (rowsT l) (rowsT_length l) hT.news (tg_oneCell l) (by omega) hb
  unfold Oper.wp
  simp [execOp, ho, resolve, invoke, builtin, hs, hx, hrun, Result.andThen]
  exact hK _ _ (hk g c' w' h2 h3)
end Go.Proofs.YtpkpnedcecjlbaaGreatDoor
end
