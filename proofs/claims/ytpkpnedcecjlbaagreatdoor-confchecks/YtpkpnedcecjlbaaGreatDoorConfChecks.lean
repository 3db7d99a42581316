/- Proved: which commands may be, and their bytes; for every command, which stays as it was; no condition beyond the library's variable that is read (lz_of). open_cmdW -/
import Derived.Test.YtpkpnedcecjlbaaGreatDoorB42
import Derived.Test.YtpkpnedcecjlbaaGreatDoorB33
import Derived.Test.YtpkpnedcecjlbaaGreatDoorB35
import Derived.Deep.RegionHeld3
import Derived.Test.YtpkpnedcecjlbaaGreatDoorTie
import Derived.Test.YtpkpnedcecjlbaaGreatDoorCards
import Derived.Lay
import Derived.MakeChecks
import Derived.SevenTiedAt
import Derived.Stop.Joined
namespace Go.Proofs.YtpkpnedcecjlbaaGreatDoor.confChecks
open Go.ChangeShapes Go.WideShapes Go.ChangeAt Go.RowKit
set_option linter.unusedVariables false

theorem own : ownKnob Tryz.prog.godebug = none := by kernel_rfl
theorem laidOut : laidOutB Tryz.prog = true := by kernel_rfl

set_option maxRecDepth 20000 in
set_option maxHeartbeats 16000000 in
theorem walk (c : Cmd) (q : Option Addr × Nat) (w : World) (hb : CmdAt w c q.1 q.2 ∧ c.ts.length * 24 ≤ 140737488355328) (hLz : Lz w) :
    Calls Tryz.prog 3 #[cmdVal c q.1 q.2] w fun e w' => e = .returned (.bool true) ∧ Below w.heap.size w w' := by
  obtain ⟨a, tc⟩ := q
  obtain ⟨hc, h24⟩ := hb
  dsimp only at hc
  have MX := hide (fun (W : World) (hb : Below w.heap.size w W) => Mx.later hLz hb)
  have HC := hide hc
  have OWN := hide (fun (W : World) (sp : Option Addr) (k base : Nat) (o : OwnT base W sp k c.ts) => show CmdAt W c sp k from ⟨o.at_ hc.tgs.lt, hc.tz, hc.th, hc.tp, hc.tl, ⟨hc.tn.1, o.capK.1⟩, o.capK.2.1, hc.ia, hc.ic, hc.is, hc.ie⟩)
  have KP := hide (fun (W : World) (sp : Option Addr) (k : Nat) (h : CmdAt W c sp k) (hm : Mx W) => kput_calls c sp k W h hm)
  have RP := hide (fun (W : World) (h : CmdAt W c a tc) => rput8_calls c a tc W h)
  have KC := hide (fun (W : World) (sp : Option Addr) (k : Nat) (h : CmdAt W c sp k) (hm : Mx W) => check_calls c sp k W h hm)
  have RC := hide (fun (W : World) (h : CmdAt W c a tc) => checkR_calls c a tc W h)
  have SM := hide (fun (W : World) (sp : Option Addr) (k : Nat) (h1 : CmdAt W c sp k) (h2 : CmdAt W c a tc) => sameM_calls h1.tgs h2.tgs h1.tn.1 ⟨h1.th, h1.tp, h1.tl⟩ (t := k) (t' := tc))
  have hnil := hc.tnil
  have TG := hide hc.tgs
  unfold PutKE at KP RP
  clear hc hLz
  unfold cmdVal at *
  have s1 : (w.alloc (.cells (cmdRow c a tc) 25)).heap.size = w.heap.size + 1 := by simp
  have s2 : ((w.alloc (.cells (cmdRow c a tc) 25)).alloc (.cells (cmdRow c a tc) 25)).heap.size = w.heap.size + 1 + 1 := by simp
  have b1 : Below w.heap.size w (w.alloc (.cells (cmdRow c a tc) 25)) := (Below.refl _ _).alloc (Nat.le_refl _) _
  have b2 : Below (w.alloc (.cells (cmdRow c a tc) 25)).heap.size (w.alloc (.cells (cmdRow c a tc) 25)) ((w.alloc (.cells (cmdRow c a tc) 25)).alloc (.cells (cmdRow c a tc) 25)) := (Below.refl _ _).alloc (Nat.le_refl _) _
  have b3 : Below ((w.alloc (.cells (cmdRow c a tc) 25)).alloc (.cells (cmdRow c a tc) 25)).heap.size ((w.alloc (.cells (cmdRow c a tc) 25)).alloc (.cells (cmdRow c a tc) 25)) (((w.alloc (.cells (cmdRow c a tc) 25)).alloc (.cells (cmdRow c a tc) 25)).alloc (.cells #[] 43)) := (Below.refl _ _).alloc (Nat.le_refl _) _
  have x1 := later_block b3 (later_block b2 (heap_new w (.cells (cmdRow c a tc) 25)))
  have x2 := heap_new (w.alloc (.cells (cmdRow c a tc) 25)) (.cells (cmdRow c a tc) 25)
  have x2 := later_block b3 x2
  have x3 := heap_new ((w.alloc (.cells (cmdRow c a tc) 25)).alloc (.cells (cmdRow c a tc) 25)) (.cells #[] 43)
  rw [s1] at x2
  rw [s2] at x3
  have X1 := hide x1
  have X2 := hide x2
  have X3 := hide x3
  have B3 := hide ((b1.trans (b2.mono b1.size)).trans (b3.mono (Nat.le_trans b1.size b2.size)))
  clear b1 b2 b3 x1 x2 x3 s1 s2
  unfold cmdRow at *
  generalize hEC : checkC c = ec at *
  generalize hL : putV c = L at *
  obtain ⟨act, cli, seq, exp, host, pre, pool, ts⟩ := c
  dsimp only at *
  generalize hn : ts.length = n at *
  have HN := hide hn
  clear hn hEC hL
  go_enter Tryz.func3, Tryz.ntmps3
  have d0 := fcell0 (unhide X1) 0 (.int .i64 act) rfl
  have d1 := fcell0 (unhide X1) 1 (.int .i64 cli) rfl
  have d2 := fcell0 (unhide X1) 2 (.int .i64 seq) rfl
  have d3 := fcell0 (unhide X1) 3 (.int .i64 exp) rfl
  have d4 := fcell0 (unhide X1) 4 (.string host) rfl
  have d5 := fcell0 (unhide X1) 5 (.string pre) rfl
  have d6 := fcell0 (unhide X1) 6 (.string pool) rfl
  have d7 := fcell0 (unhide X1) 7 (.slice a n tc) rfl
  go_wp2_with (at_builtin; refine wpList_cloneT rfl (.tmp 9) (.tmp 11) rfl (w.heap.size + 1 + 1) rfl (by exact unhide X3) a n tc rfl ts (unhide HN) ((unhide TG).later (by exact unhide B3)) hnil h24 ?_; intro g c' V3 oT gT; have O3 := hide oT; have G3 := hide gT; have XE := (gT.block (w.heap.size + 1) (Array.getElem?_eq_some_iff.1 (unhide X2)).1 (fun e => by have := Option.some.inj e; omega)).trans (unhide X2); have HXE := hide XE; have f7 : V3.frozen? ⟨w.heap.size + 1, 7, none⟩ = false := (by simp [World.frozen?, XE]); have t7 := fcell0 XE 7 (.slice a n tc) rfl; have XO := hide (set_at XE 7 (.slice (some ⟨g, 0, none⟩) n c') #[.int .i64 act, .int .i64 cli, .int .i64 seq, .int .i64 exp, .string host, .string pre, .string pool, .slice (some ⟨g, 0, none⟩) n c'] rfl); have o0 := fcell0 (unhide XO) 0 (.int .i64 act) rfl; have o1 := fcell0 (unhide XO) 1 (.int .i64 cli) rfl; have o2 := fcell0 (unhide XO) 2 (.int .i64 seq) rfl; have o3 := fcell0 (unhide XO) 3 (.int .i64 exp) rfl; have o4 := fcell0 (unhide XO) 4 (.string host) rfl; have o5 := fcell0 (unhide XO) 5 (.string pre) rfl; have o6 := fcell0 (unhide XO) 6 (.string pool) rfl; have o7 := fcell0 (unhide XO) 7 (.slice (some ⟨g, 0, none⟩) n c') rfl; clear oT gT XE)
  have gS := hide (grown_set V3 (w.heap.size + 1) 7 (.slice (some ⟨g, 0, none⟩) n c'))
  have O4 := hide ((unhide O3).farK (unhide gS) (Nat.lt_succ_self _))
  have B4 := hide (below_grownK (below_grownK (unhide B3) (unhide G3) (by omega) (unhide B3).size) (unhide gS) (by omega) (by have h1 := (unhide B3).size; have h2 := (unhide G3).size; omega))
  have XD4 := hide (((unhide gS).block w.heap.size (by have h1 := (unhide G3).size; have h2 := (Array.getElem?_eq_some_iff.1 (unhide X1)).1; omega) (fun e => by have := Option.some.inj e; omega)).trans (((unhide G3).block w.heap.size (Array.getElem?_eq_some_iff.1 (unhide X1)).1 (fun e => by have := Option.some.inj e; omega)).trans (unhide X1)))
  generalize V3.setCell ⟨w.heap.size + 1, 7, none⟩ (.slice (some ⟨g, 0, none⟩) n c') = W4 at *
  have CA4 := hide (unhide OWN W4 (some ⟨g, 0, none⟩) c' _ (unhide O4))
  have K4 := hide (unhide KP W4 (some ⟨g, 0, none⟩) c' (unhide CA4) (unhide MX W4 (unhide B4)))
  clear KP OWN f7 t7 HXE O3 G3 gS O4 X1 X2 X3 B3 d0 d1 d2 d3 d4 d5 d6 d7
  refine (unhide K4).mono ?_
  rintro e V5 ⟨sp1, n1, cc1, rfl, hn1, ho1, v5⟩
  have B5 := hide ((unhide B4).trans (v5.mono (unhide B4).size))
  have XD5 := hide (later_block v5 (unhide XD4))
  have XO5 := hide (later_block v5 (unhide XO))
  have CA5 := hide ((unhide CA4).later v5)
  have HO1 := hide ho1
  have HN1 := hide hn1
  have R5 := hide (unhide RP V5 ((unhide HC).later (unhide B5)))
  clear o0 o1 o2 o3 o4 o5 o6 o7 ho1 hn1 v5 K4 RP XD4 XO CA4 B4
  have e0 := fcell0 (unhide XD5) 0 (.int .i64 act) rfl
  have e1 := fcell0 (unhide XD5) 1 (.int .i64 cli) rfl
  have e2 := fcell0 (unhide XD5) 2 (.int .i64 seq) rfl
  have e3 := fcell0 (unhide XD5) 3 (.int .i64 exp) rfl
  have e4 := fcell0 (unhide XD5) 4 (.string host) rfl
  have e5 := fcell0 (unhide XD5) 5 (.string pre) rfl
  have e6 := fcell0 (unhide XD5) 6 (.string pool) rfl
  have e7 := fcell0 (unhide XD5) 7 (.slice a n tc) rfl
  go_wp2_with fail
  refine (unhide R5).mono ?_
  rintro e V6 ⟨sp2, n2, cc2, rfl, hn2, ho2, v6⟩
  have B6 := hide ((unhide B5).trans (v6.mono (unhide B5).size))
  have XD6 := hide (later_block v6 (unhide XD5))
  have XO6 := hide (later_block v6 (unhide XO5))
  have CA6 := hide ((unhide CA5).later v6)
  have BB1 := hide ((unhide HO1).bytes.later v6)
  have BB2 := hide ho2.bytes
  have HN2 := hide hn2
  have KS := hide (fun (W : World) (hb : Below V6.heap.size V6 W) => show W.cell? ⟨w.heap.size + 1, 0, none⟩ = some (.int .i64 act) ∧ W.cell? ⟨w.heap.size + 1, 1, none⟩ = some (.int .i64 cli) ∧ W.cell? ⟨w.heap.size + 1, 2, none⟩ = some (.int .i64 seq) ∧ W.cell? ⟨w.heap.size + 1, 3, none⟩ = some (.int .i64 exp) ∧ W.cell? ⟨w.heap.size + 1, 4, none⟩ = some (.string host) ∧ W.cell? ⟨w.heap.size + 1, 5, none⟩ = some (.string pre) ∧ W.cell? ⟨w.heap.size + 1, 6, none⟩ = some (.string pool) ∧ W.cell? ⟨w.heap.size + 1, 7, none⟩ = some (.slice (some ⟨g, 0, none⟩) n c') ∧ W.cell? ⟨w.heap.size, 0, none⟩ = some (.int .i64 act) ∧ W.cell? ⟨w.heap.size, 1, none⟩ = some (.int .i64 cli) ∧ W.cell? ⟨w.heap.size, 2, none⟩ = some (.int .i64 seq) ∧ W.cell? ⟨w.heap.size, 3, none⟩ = some (.int .i64 exp) ∧ W.cell? ⟨w.heap.size, 4, none⟩ = some (.string host) ∧ W.cell? ⟨w.heap.size, 5, none⟩ = some (.string pre) ∧ W.cell? ⟨w.heap.size, 6, none⟩ = some (.string pool) ∧ W.cell? ⟨w.heap.size, 7, none⟩ = some (.slice a n tc) ∧ (convert 26 9 (.slice sp1 n1 cc1)).run Tryz.prog W = .ok (.string (strOf L)) W ∧ (convert 26 9 (.slice sp2 n2 cc2)).run Tryz.prog W = .ok (.string (strOf L)) W from by
    have y1 := later_block hb (unhide XO6)
    have y2 := later_block hb (unhide XD6)
    exact ⟨fcell0 y1 0 (.int .i64 act) rfl, fcell0 y1 1 (.int .i64 cli) rfl, fcell0 y1 2 (.int .i64 seq) rfl, fcell0 y1 3 (.int .i64 exp) rfl, fcell0 y1 4 (.string host) rfl, fcell0 y1 5 (.string pre) rfl, fcell0 y1 6 (.string pool) rfl, fcell0 y1 7 (.slice (some ⟨g, 0, none⟩) n c') rfl, fcell0 y2 0 (.int .i64 act) rfl, fcell0 y2 1 (.int .i64 cli) rfl, fcell0 y2 2 (.int .i64 seq) rfl, fcell0 y2 3 (.int .i64 exp) rfl, fcell0 y2 4 (.string host) rfl, fcell0 y2 5 (.string pre) rfl, fcell0 y2 6 (.string pool) rfl, fcell0 y2 7 (.slice a n tc) rfl, run_string8 n1 cc1 (unhide HN1) ((unhide BB1).later hb), run_string8 n2 cc2 (unhide HN2) ((unhide BB2).later hb)⟩)
  have bD := hide (show Below V6.heap.size V6 V6.drew from (Below.refl _ _).drew)
  have LV := hide (live8_calls V6.drew (unhide MX _ ((unhide B6).trans ((unhide bD).mono (unhide B6).size))))
  clear e0 e1 e2 e3 e4 e5 e6 e7 ho2 hn2 v6 R5 XD5 XO5 CA5 B5 HO1
  go_wp2_with fail
  refine wp_region_held_drew (S := fun w' => w'.cell? ⟨w.heap.size + 1, 0, none⟩ = some (.int .i64 act) ∧ w'.cell? ⟨w.heap.size + 1, 1, none⟩ = some (.int .i64 cli) ∧ w'.cell? ⟨w.heap.size + 1, 2, none⟩ = some (.int .i64 seq) ∧ w'.cell? ⟨w.heap.size + 1, 3, none⟩ = some (.int .i64 exp) ∧ w'.cell? ⟨w.heap.size + 1, 4, none⟩ = some (.string host) ∧ w'.cell? ⟨w.heap.size + 1, 5, none⟩ = some (.string pre) ∧ w'.cell? ⟨w.heap.size + 1, 6, none⟩ = some (.string pool) ∧ w'.cell? ⟨w.heap.size + 1, 7, none⟩ = some (.slice (some ⟨g, 0, none⟩) n c') ∧ w'.cell? ⟨w.heap.size, 0, none⟩ = some (.int .i64 act) ∧ w'.cell? ⟨w.heap.size, 1, none⟩ = some (.int .i64 cli) ∧ w'.cell? ⟨w.heap.size, 2, none⟩ = some (.int .i64 seq) ∧ w'.cell? ⟨w.heap.size, 3, none⟩ = some (.int .i64 exp) ∧ w'.cell? ⟨w.heap.size, 4, none⟩ = some (.string host) ∧ w'.cell? ⟨w.heap.size, 5, none⟩ = some (.string pre) ∧ w'.cell? ⟨w.heap.size, 6, none⟩ = some (.string pool) ∧ w'.cell? ⟨w.heap.size, 7, none⟩ = some (.slice a n tc) ∧ (convert 26 9 (.slice sp1 n1 cc1)).run Tryz.prog w' = .ok (.string (strOf L)) w' ∧ (convert 26 9 (.slice sp2 n2 cc2)).run Tryz.prog w' = .ok (.string (strOf L)) w') (by kernel_rfl) ?_ (fun hHeld => ?_)
  · try dsimp only
    first | exact unhide KS _ (unhide H4) | exact unhide KS _ (unhide H3) | exact unhide KS _ (unhide H2) | exact unhide KS _ (unhide H1) | exact unhide KS _ (unhide bD)
  refine hO 0 (fun K hK => ?_)
  go_simp
  first
    | (go_at_call 10
       refine (unhide LV).mono ?_
       rintro e U1 ⟨rfl, u1⟩
       have H1 := hide ((unhide bD).trans (u1.mono (unhide bD).size))
       clear u1)
    | (go_at_call 11
       refine (unhide KC U1 (some ⟨g, 0, none⟩) c' ((unhide CA6).later (unhide H1)) (unhide MX U1 ((unhide B6).trans ((unhide H1).mono (unhide B6).size)))).mono ?_
       rintro e U2 ⟨rfl, u2⟩
       have H2 := hide ((unhide H1).trans (u2.mono (unhide H1).size))
       clear u2)
    | (go_at_call 12
       refine (unhide RC U2 ((unhide HC).later ((unhide B6).trans ((unhide H2).mono (unhide B6).size)))).mono ?_
       rintro e U3 ⟨rfl, u3⟩
       have H3 := hide ((unhide H2).trans (u3.mono (unhide H2).size))
       clear u3)
    | (go_at_call 13
       refine (unhide SM U3 (some ⟨g, 0, none⟩) c' ((unhide CA6).later (unhide H3)) ((unhide HC).later ((unhide B6).trans ((unhide H3).mono (unhide B6).size)))).mono ?_
       rintro e U4 ⟨rfl, u4⟩
       have H4 := hide ((unhide H3).trans (u4.mono (unhide H3).size))
       clear u4)
  go_wp2_with fail
  refine hK.out _ _ ?_ (fun hHeld => ?_)
  · try dsimp only
    first | exact unhide KS _ (unhide H4) | exact unhide KS _ (unhide H3) | exact unhide KS _ (unhide H2) | exact unhide KS _ (unhide H1) | exact unhide KS _ (unhide bD)
  clear hK K
  refine hP ?_
  refine hT 1 ?_
  refine hT 2 ?_
  refine hT 4 ?_
  refine hO 3 (fun K hK => ?_)
  go_simp
  first
    | (go_at_call 10
       refine (unhide LV).mono ?_
       rintro e U1 ⟨rfl, u1⟩
       have H1 := hide ((unhide bD).trans (u1.mono (unhide bD).size))
       clear u1)
    | (go_at_call 11
       refine (unhide KC U1 (some ⟨g, 0, none⟩) c' ((unhide CA6).later (unhide H1)) (unhide MX U1 ((unhide B6).trans ((unhide H1).mono (unhide B6).size)))).mono ?_
       rintro e U2 ⟨rfl, u2⟩
       have H2 := hide ((unhide H1).trans (u2.mono (unhide H1).size))
       clear u2)
    | (go_at_call 12
       refine (unhide RC U2 ((unhide HC).later ((unhide B6).trans ((unhide H2).mono (unhide B6).size)))).mono ?_
       rintro e U3 ⟨rfl, u3⟩
       have H3 := hide ((unhide H2).trans (u3.mono (unhide H2).size))
       clear u3)
    | (go_at_call 13
       refine (unhide SM U3 (some ⟨g, 0, none⟩) c' ((unhide CA6).later (unhide H3)) ((unhide HC).later ((unhide B6).trans ((unhide H3).mono (unhide B6).size)))).mono ?_
       rintro e U4 ⟨rfl, u4⟩
       have H4 := hide ((unhide H3).trans (u4.mono (unhide H3).size))
       clear u4)
  go_wp2_with fail
  refine hK.out _ _ ?_ (fun hHeld => ?_)
  · try dsimp only
    first | exact unhide KS _ (unhide H4) | exact unhide KS _ (unhide H3) | exact unhide KS _ (unhide H2) | exact unhide KS _ (unhide H1) | exact unhide KS _ (unhide bD)
  clear hK K
  refine hP ?_
  refine hO 5 (fun K hK => ?_)
  go_simp
  first
    | (go_at_call 10
       refine (unhide LV).mono ?_
       rintro e U1 ⟨rfl, u1⟩
       have H1 := hide ((unhide bD).trans (u1.mono (unhide bD).size))
       clear u1)
    | (go_at_call 11
       refine (unhide KC U1 (some ⟨g, 0, none⟩) c' ((unhide CA6).later (unhide H1)) (unhide MX U1 ((unhide B6).trans ((unhide H1).mono (unhide B6).size)))).mono ?_
       rintro e U2 ⟨rfl, u2⟩
       have H2 := hide ((unhide H1).trans (u2.mono (unhide H1).size))
       clear u2)
    | (go_at_call 12
       refine (unhide RC U2 ((unhide HC).later ((unhide B6).trans ((unhide H2).mono (unhide B6).size)))).mono ?_
       rintro e U3 ⟨rfl, u3⟩
       have H3 := hide ((unhide H2).trans (u3.mono (unhide H2).size))
       clear u3)
    | (go_at_call 13
       refine (unhide SM U3 (some ⟨g, 0, none⟩) c' ((unhide CA6).later (unhide H3)) ((unhide HC).later ((unhide B6).trans ((unhide H3).mono (unhide B6).size)))).mono ?_
       rintro e U4 ⟨rfl, u4⟩
       have H4 := hide ((unhide H3).trans (u4.mono (unhide H3).size))
       clear u4)
  go_wp2_with fail
  refine hK.out _ _ ?_ (fun hHeld => ?_)
  · try dsimp only
    first | exact unhide KS _ (unhide H4) | exact unhide KS _ (unhide H3) | exact unhide KS _ (unhide H2) | exact unhide KS _ (unhide H1) | exact unhide KS _ (unhide bD)
  clear hK K
  refine hP ?_
  refine hT 6 ?_
  refine hT 7 ?_
  refine hT 8 ?_
  refine hT 9 ?_
  refine hT 10 ?_
  refine hT 11 ?_
  refine hT 12 ?_
  refine hT 13 ?_
  refine hT 14 ?_
  refine hT 15 ?_
  refine hT 16 ?_
  refine hT 17 ?_
  refine hT 18 ?_
  refine hT 19 ?_
  refine hT 20 ?_
  refine hT 21 ?_
  refine hT 22 ?_
  refine hO 23 (fun K hK => ?_)
  go_simp
  first
    | (go_at_call 10
       refine (unhide LV).mono ?_
       rintro e U1 ⟨rfl, u1⟩
       have H1 := hide ((unhide bD).trans (u1.mono (unhide bD).size))
       clear u1)
    | (go_at_call 11
       refine (unhide KC U1 (some ⟨g, 0, none⟩) c' ((unhide CA6).later (unhide H1)) (unhide MX U1 ((unhide B6).trans ((unhide H1).mono (unhide B6).size)))).mono ?_
       rintro e U2 ⟨rfl, u2⟩
       have H2 := hide ((unhide H1).trans (u2.mono (unhide H1).size))
       clear u2)
    | (go_at_call 12
       refine (unhide RC U2 ((unhide HC).later ((unhide B6).trans ((unhide H2).mono (unhide B6).size)))).mono ?_
       rintro e U3 ⟨rfl, u3⟩
       have H3 := hide ((unhide H2).trans (u3.mono (unhide H2).size))
       clear u3)
    | (go_at_call 13
       refine (unhide SM U3 (some ⟨g, 0, none⟩) c' ((unhide CA6).later (unhide H3)) ((unhide HC).later ((unhide B6).trans ((unhide H3).mono (unhide B6).size)))).mono ?_
       rintro e U4 ⟨rfl, u4⟩
       have H4 := hide ((unhide H3).trans (u4.mono (unhide H3).size))
       clear u4)
  go_wp2_with fail
  refine hK.out _ _ ?_ (fun hHeld => ?_)
  · try dsimp only
    first | exact unhide KS _ (unhide H4) | exact unhide KS _ (unhide H3) | exact unhide KS _ (unhide H2) | exact unhide KS _ (unhide H1) | exact unhide KS _ (unhide bD)
  clear hK K
  refine hP ?_
  refine hT 24 ?_
  refine hT 25 ?_
  refine wpAnyH_done (by kernel_rfl) ?_ _
  have F := hide ((unhide B6).trans ((unhide H4).mono (unhide B6).size))
  go_wp2
  go_ret
  exact ⟨rfl, unhide F⟩

set_option maxRecDepth 100000 in
theorem lifted (os : Os) (started : os.Started) (H : Type) (enc : TypeId × Value → H) :
    ReturnsInHanded {} Tryz.checked os 3 .any (fun w args => (Rows.confChecksSpec.pre enc Tryz.prog Tryz.f3 Rows.confChecksRow.domain false w args ∧ laidMetH Tryz.prog Rows.confChecksRow.laid w) ∧ sizedMet enc Tryz.prog Tryz.f3 (OpenSpec.ofChange Rows.confChecksSpec) false w args)
      (Rows.confChecksSpec.post enc Tryz.prog Tryz.f3 false true false false) := by
  refine handed_both (C := Tryz.checked) (X := fun w _ => laidMetH Tryz.prog Rows.confChecksRow.laid w) (fun _ _ _ hh h => h.of_heap hh) own started (by kernel_rfl) Tryz.func3
    (ChangeSpec.witness_shaped (enc := enc) (C := Tryz.checked) (os := os) (X := fun w _ => laidMetH Tryz.prog Rows.confChecksRow.laid w) false (World.laidAll Tryz.prog os Rows.confChecksRow.laid) #[.agg #[.int .i64 0, .int .i64 0, .int .i64 0, .int .i64 0, .string ⟨#[]⟩, .string ⟨#[]⟩, .string ⟨#[]⟩, .slice none 0 0]] 8 (World.laidAll_os _ _ _)
      (World.shaped_of_ZipB (by kernel_rfl) (by kernel_rfl)) (by kernel_rfl) (by kernel_rfl) (by kernel_rfl)
      (by rw [MakeChecks.laidMetH_plain _ _ _ (by kernel_rfl)]; exact laidMet_laidAll _ (by kernel_rfl) (by kernel_rfl))) ?_
  intro W base args ds gs before hval0 hW hcnd hsz hL hsh _
  have hLz : Lz W := lz_of (by rw [MakeChecks.laidMetH_plain _ _ _ (by kernel_rfl)] at hL; exact hL) hsh
  have hval : ∀ (j : Nat) t v, Tryz.f3.params[j]? = some t → args[j]? = some v → Value.okWide Tryz.prog W .any base t v := hval0
  have hW' := hW
  obtain ⟨p, q, hA0, hV, rfl, hfz, hnd⟩ := hW
  have hA : DataW.TrodAll enc Tryz.prog W 0 (fun _ => true) true Tryz.f3.params.toList args.toList ds p := hA0
  rw [Tryz.params3] at hA hval
  obtain ⟨v0, vs0, d0, ds0, p0, q0, hargs, rfl, rfl, h0, r0⟩ := trodAll_cons hA
  obtain ⟨rfl, rfl, rfl⟩ := trodAll_nil r0
  obtain rfl : args = #[v0] := by cases args; simp_all
  obtain ⟨rfl, rfl⟩ := trodVars_none hV
  have k0 := h0
  have lt0 : ∀ x ∈ p0, x.block < W.heap.size := by obtain ⟨m, hm⟩ := k0; exact DataW.trod_lt m _ _ _ hm
  obtain ⟨e0, q0, rfl, hb0⟩ := open_cmdW (hval 0 25 v0 rfl rfl) h0 (fun n hn => of_decide_eq_true (List.all_eq_true.1 hsz n (DataW.weights_mem_each (j := 0) (d := d0) rfl rfl n hn)))
  clear hA0 hval0
  refine (walk e0 q0 W hb0 hLz).mono fun e W' ⟨he, bel⟩ => ?_
  subst he
  exact ⟨_, rfl, _, _, _, [], _, [], hW', trodAll_mk1 (shut_bool Tryz.underlying4 _), (trodAll_cons_mk (Below.trod laidOut (by kernel_rfl) (of_decide_eq_true (by kernel_rfl)) k0 bel lt0) trodAll_mk0), rfl, bel.frame _, fun h => by cases h⟩

theorem proved : Rows.ConfChecksSaid :=
  OpenClaim.holds_of_wide 3 Tryz.f3 rfl rfl rfl rfl rfl rfl rfl ⟨rfl, rfl, rfl, rfl, rfl⟩ rfl rfl rfl rfl rfl (by kernel_rfl) Tryz.func3 (by kernel_rfl)
    (of_decide_eq_true (by kernel_rfl)) (by unfold Func.isWrapper; first | (rw [if_pos (by decide +kernel)]; kernel_rfl) | (rw [if_neg (by decide +kernel)]; exact ⟨rfl, rfl⟩))
    (fun os started H enc _ => lifted os started H enc)
theorem card : Rows.ConfChecksCardSaid :=
  Claim7.holds_tied_plain_at .later [] [.data, .pinned] true (true, "b7fa9f903173f51ff5646f2ce31a9d2e1f2bb21ed41642c1f1054eddabb198cc") true proved (fun _ h => by cases h) (by kernel_rfl) (fun _ h => by cases h) confChecks_row_tie rfl ⟨rfl, rfl⟩ (by kernel_rfl) rfl
    (fun f fn hf hfn => by
      obtain rfl : f = 3 := Option.some.inj ((show Tryz.prog.funcNamed "tollgate/tollgatelaw08.ConfChecks" = some 3 by kernel_rfl).symm.trans hf) |>.symm
      obtain rfl : fn = Tryz.f3 := (Option.some.inj (Tryz.func3.symm.trans hfn)).symm
      exact ⟨by kernel_rfl, fun j t ht => by
        rw [Tryz.params3] at ht
        have hm : t ∈ [25] := by simpa using Array.mem_of_getElem? ht
        have hall : ([25].all fun u => !Tryz.prog.wantsStandIn u) = true := by kernel_rfl
        exact (show Tryz.prog.wantsStandIn t = false by simpa using List.all_eq_true.1 hall t hm)⟩)
    (by kernel_rfl)
end Go.Proofs.YtpkpnedcecjlbaaGreatDoor.confChecks
namespace Go.Proofs.YtpkpnedcecjlbaaGreatDoor
theorem confChecks_holds : Rows.ConfChecksCardSaid := confChecks.card
#print axioms confChecks_holds
end Go.Proofs.YtpkpnedcecjlbaaGreatDoor
