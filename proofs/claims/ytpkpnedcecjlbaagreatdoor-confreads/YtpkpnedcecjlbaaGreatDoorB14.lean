/- Conf: names of a command; Check. -/
import Derived.Test.YtpkpnedcecjlbaaGreatDoorB13
import Derived.Test.YtpkpnedcecjlbaaGreatDoorB01
import Derived.Test.YtpkpnedcecjlbaaGreatDoorRows
import Derived.ShutString
import Derived.ChangeOld
import Derived.SizedLaws
section
namespace Go.Proofs.YtpkpnedcecjlbaaGreatDoor
open Go.ChangeShapes Go.WideShapes Go.ChangeAt Go.RowKit
set_option linter.unusedVariables false

set_option maxRecDepth 20000 in
set_option maxHeartbeats 8000000 in
theorem namesMayBe_calls (c : Cmd) (a : Option Addr) (tc : Nat) (w : World) (h : CmdAt w c a tc) (hm : Mx w) : Calls Tryz.prog 33 #[cmdVal c a tc] w fun e w' => e = .returned (.bool (namesOk c)) ∧ Below w.heap.size w w' := by
  have HE := hide (show namesOk c = ((!isRoute c.act || (hostT c.host && prefT c.pre)) && (decide (c.act = 4) || nameT c.pool) && c.ts.all (fun t => addrT t.1)) from rfl)
  have HT := hide h.tgs
  have HZ := hide h.tz
  have z1 := h.th
  have z2 := h.tp
  have z3 := h.tl
  have hn := h.tn.1
  have HM := hide hm
  unfold cmdVal
  clear h hm
  obtain ⟨act, cli, seq, exp, host, pre, pool, ts⟩ := c
  simp only at *
  generalize namesOk ⟨act, cli, seq, exp, host, pre, pool, ts⟩ = R at *
  have CA := hide (fun W (hb : Below w.heap.size w W) => addressesMayBe_calls ((unhide HT).later hb) (unhide HZ) ts.length tc rfl hn)
  generalize ts.all (fun t => addrT t.1) = x4 at *
  generalize ts.length = tn at *
  have X1 := hide (heap_new w (.cells #[.int .i64 act, .int .i64 cli, .int .i64 seq, .int .i64 exp, .string host, .string pre, .string pool, .slice a tn tc] 25))
  have k0 := box_cell (unhide X1) 0 _ rfl
  have k4 := box_cell (unhide X1) 4 _ rfl
  have k5 := box_cell (unhide X1) 5 _ rfl
  have k6 := box_cell (unhide X1) 6 _ rfl
  have k7 := box_cell (unhide X1) 7 _ rfl
  have B0 := hide (show Below w.heap.size w (w.alloc (.cells #[.int .i64 act, .int .i64 cli, .int .i64 seq, .int .i64 exp, .string host, .string pre, .string pool, .slice a tn tc] 25)) from (Below.refl _ _).alloc (Nat.le_refl _) _)
  have RC := hide (ofRoute_calls act)
  have C1 := hide (fun W (hb : Below w.heap.size w W) => isHost_calls host z1 W ((unhide HM).later hb))
  have C2 := hide (isPrefix_calls pre z2)
  have C3 := hide (isName_calls pool z3)
  clear X1 HT HZ HM z1 z2 z3
  generalize hostT host = x1 at *
  generalize prefT pre = x2 at *
  generalize nameT pool = x3 at *
  generalize isRoute act = x0 at *
  cases x0
  · skip
    by_cases h4 : act = 4
    · subst h4
      have HR : R = x4 := by
        rw [unhide HE]
        all_goals first | rfl | simp
      clear HE
      go_enter Tryz.func33, Tryz.ntmps33
      go_wp2_with fail
      refine (unhide RC _).mono ?_
      rintro e V ⟨rfl, rfl⟩
      go_wp2_with fail
      refine (unhide CA _ (unhide B0)).mono ?_
      rintro e V1 ⟨rfl, hb⟩
      replace k0 := cell_later hb k0
      replace k4 := cell_later hb k4
      replace k5 := cell_later hb k5
      replace k6 := cell_later hb k6
      replace k7 := cell_later hb k7
      have B1 := hide ((unhide B0).trans (hb.mono (unhide B0).size))
      clear hb
      go_wp2
      go_ret
      exact ⟨by rw [HR]; rfl, unhide B1⟩
    · have i4 : (act == 4) = false := by simpa using h4
      have d4 : decide (act = 4) = false := decide_eq_false h4
      cases x3
      · skip
        have HR : R = false := by
          rw [unhide HE, d4]
          all_goals first | rfl | simp
        clear HE
        go_enter Tryz.func33, Tryz.ntmps33
        go_wp2_with fail
        refine (unhide RC _).mono ?_
        rintro e V ⟨rfl, rfl⟩
        go_wp2_with fail
        refine (unhide C3 _).mono ?_
        rintro e V1 ⟨rfl, hb⟩
        replace k0 := cell_later hb k0
        replace k4 := cell_later hb k4
        replace k5 := cell_later hb k5
        replace k6 := cell_later hb k6
        replace k7 := cell_later hb k7
        have B1 := hide ((unhide B0).trans (hb.mono (unhide B0).size))
        clear hb
        go_wp2
        go_ret
        exact ⟨by rw [HR]; rfl, unhide B1⟩
      · skip
        have HR : R = x4 := by
          rw [unhide HE, d4]
          all_goals first | rfl | simp
        clear HE
        go_enter Tryz.func33, Tryz.ntmps33
        go_wp2_with fail
        refine (unhide RC _).mono ?_
        rintro e V ⟨rfl, rfl⟩
        go_wp2_with fail
        refine (unhide C3 _).mono ?_
        rintro e V1 ⟨rfl, hb⟩
        replace k0 := cell_later hb k0
        replace k4 := cell_later hb k4
        replace k5 := cell_later hb k5
        replace k6 := cell_later hb k6
        replace k7 := cell_later hb k7
        have B1 := hide ((unhide B0).trans (hb.mono (unhide B0).size))
        clear hb
        go_wp2_with fail
        refine (unhide CA _ (unhide B1)).mono ?_
        rintro e V2 ⟨rfl, hb⟩
        replace k0 := cell_later hb k0
        replace k4 := cell_later hb k4
        replace k5 := cell_later hb k5
        replace k6 := cell_later hb k6
        replace k7 := cell_later hb k7
        have B2 := hide ((unhide B1).trans (hb.mono (unhide B1).size))
        clear hb
        go_wp2
        go_ret
        exact ⟨by rw [HR]; rfl, unhide B2⟩
  · cases x1
    · skip
      have HR : R = false := by
        rw [unhide HE]
        all_goals first | rfl | simp
      clear HE
      go_enter Tryz.func33, Tryz.ntmps33
      go_wp2_with fail
      refine (unhide RC _).mono ?_
      rintro e V ⟨rfl, rfl⟩
      go_wp2_with fail
      refine (unhide C1 _ (unhide B0)).mono ?_
      rintro e V1 ⟨rfl, hb⟩
      replace k0 := cell_later hb k0
      replace k4 := cell_later hb k4
      replace k5 := cell_later hb k5
      replace k6 := cell_later hb k6
      replace k7 := cell_later hb k7
      have B1 := hide ((unhide B0).trans (hb.mono (unhide B0).size))
      clear hb
      go_wp2
      go_ret
      exact ⟨by rw [HR]; rfl, unhide B1⟩
    · cases x2
      · skip
        have HR : R = false := by
          rw [unhide HE]
          all_goals first | rfl | simp
        clear HE
        go_enter Tryz.func33, Tryz.ntmps33
        go_wp2_with fail
        refine (unhide RC _).mono ?_
        rintro e V ⟨rfl, rfl⟩
        go_wp2_with fail
        refine (unhide C1 _ (unhide B0)).mono ?_
        rintro e V1 ⟨rfl, hb⟩
        replace k0 := cell_later hb k0
        replace k4 := cell_later hb k4
        replace k5 := cell_later hb k5
        replace k6 := cell_later hb k6
        replace k7 := cell_later hb k7
        have B1 := hide ((unhide B0).trans (hb.mono (unhide B0).size))
        clear hb
        go_wp2_with fail
        refine (unhide C2 _).mono ?_
        rintro e V2 ⟨rfl, hb⟩
        replace k0 := cell_later hb k0
        replace k4 := cell_later hb k4
        replace k5 := cell_later hb k5
        replace k6 := cell_later hb k6
        replace k7 := cell_later hb k7
        have B2 := hide ((unhide B1).trans (hb.mono (unhide B1).size))
        clear hb
        go_wp2
        go_ret
        exact ⟨by rw [HR]; rfl, unhide B2⟩
      · skip
        by_cases h4 : act = 4
        · subst h4
          have HR : R = x4 := by
            rw [unhide HE]
            all_goals first | rfl | simp
          clear HE
          go_enter Tryz.func33, Tryz.ntmps33
          go_wp2_with fail
          refine (unhide RC _).mono ?_
          rintro e V ⟨rfl, rfl⟩
          go_wp2_with fail
          refine (unhide C1 _ (unhide B0)).mono ?_
          rintro e V1 ⟨rfl, hb⟩
          replace k0 := cell_later hb k0
          replace k4 := cell_later hb k4
          replace k5 := cell_later hb k5
          replace k6 := cell_later hb k6
          replace k7 := cell_later hb k7
          have B1 := hide ((unhide B0).trans (hb.mono (unhide B0).size))
          clear hb
          go_wp2_with fail
          refine (unhide C2 _).mono ?_
          rintro e V2 ⟨rfl, hb⟩
          replace k0 := cell_later hb k0
          replace k4 := cell_later hb k4
          replace k5 := cell_later hb k5
          replace k6 := cell_later hb k6
          replace k7 := cell_later hb k7
          have B2 := hide ((unhide B1).trans (hb.mono (unhide B1).size))
          clear hb
          go_wp2_with fail
          refine (unhide CA _ (unhide B2)).mono ?_
          rintro e V3 ⟨rfl, hb⟩
          replace k0 := cell_later hb k0
          replace k4 := cell_later hb k4
          replace k5 := cell_later hb k5
          replace k6 := cell_later hb k6
          replace k7 := cell_later hb k7
          have B3 := hide ((unhide B2).trans (hb.mono (unhide B2).size))
          clear hb
          go_wp2
          go_ret
          exact ⟨by rw [HR]; rfl, unhide B3⟩
        · have i4 : (act == 4) = false := by simpa using h4
          have d4 : decide (act = 4) = false := decide_eq_false h4
          cases x3
          · skip
            have HR : R = false := by
              rw [unhide HE, d4]
              all_goals first | rfl | simp
            clear HE
            go_enter Tryz.func33, Tryz.ntmps33
            go_wp2_with fail
            refine (unhide RC _).mono ?_
            rintro e V ⟨rfl, rfl⟩
            go_wp2_with fail
            refine (unhide C1 _ (unhide B0)).mono ?_
            rintro e V1 ⟨rfl, hb⟩
            replace k0 := cell_later hb k0
            replace k4 := cell_later hb k4
            replace k5 := cell_later hb k5
            replace k6 := cell_later hb k6
            replace k7 := cell_later hb k7
            have B1 := hide ((unhide B0).trans (hb.mono (unhide B0).size))
            clear hb
            go_wp2_with fail
            refine (unhide C2 _).mono ?_
            rintro e V2 ⟨rfl, hb⟩
            replace k0 := cell_later hb k0
            replace k4 := cell_later hb k4
            replace k5 := cell_later hb k5
            replace k6 := cell_later hb k6
            replace k7 := cell_later hb k7
            have B2 := hide ((unhide B1).trans (hb.mono (unhide B1).size))
            clear hb
            go_wp2_with fail
            refine (unhide C3 _).mono ?_
            rintro e V3 ⟨rfl, hb⟩
            replace k0 := cell_later hb k0
            replace k4 := cell_later hb k4
            replace k5 := cell_later hb k5
            replace k6 := cell_later hb k6
            replace k7 := cell_later hb k7
            have B3 := hide ((unhide B2).trans (hb.mono (unhide B2).size))
            clear hb
            go_wp2
            go_ret
            exact ⟨by rw [HR]; rfl, unhide B3⟩
          · skip
            have HR : R = x4 := by
              rw [unhide HE, d4]
              all_goals first | rfl | simp
            clear HE
            go_enter Tryz.func33, Tryz.ntmps33
            go_wp2_with fail
            refine (unhide RC _).mono ?_
            rintro e V ⟨rfl, rfl⟩
            go_wp2_with fail
            refine (unhide C1 _ (unhide B0)).mono ?_
            rintro e V1 ⟨rfl, hb⟩
            replace k0 := cell_later hb k0
            replace k4 := cell_later hb k4
            replace k5 := cell_later hb k5
            replace k6 := cell_later hb k6
            replace k7 := cell_later hb k7
            have B1 := hide ((unhide B0).trans (hb.mono (unhide B0).size))
            clear hb
            go_wp2_with fail
            refine (unhide C2 _).mono ?_
            rintro e V2 ⟨rfl, hb⟩
            replace k0 := cell_later hb k0
            replace k4 := cell_later hb k4
            replace k5 := cell_later hb k5
            replace k6 := cell_later hb k6
            replace k7 := cell_later hb k7
            have B2 := hide ((unhide B1).trans (hb.mono (unhide B1).size))
            clear hb
            go_wp2_with fail
            refine (unhide C3 _).mono ?_
            rintro e V3 ⟨rfl, hb⟩
            replace k0 := cell_later hb k0
            replace k4 := cell_later hb k4
            replace k5 := cell_later hb k5
            replace k6 := cell_later hb k6
            replace k7 := cell_later hb k7
            have B3 := hide ((unhide B2).trans (hb.mono (unhide B2).size))
            clear hb
            go_wp2_with fail
            refine (unhide CA _ (unhide B3)).mono ?_
            rintro e V4 ⟨rfl, hb⟩
            replace k0 := cell_later hb k0
            replace k4 := cell_later hb k4
            replace k5 := cell_later hb k5
            replace k6 := cell_later hb k6
            replace k7 := cell_later hb k7
            have B4 := hide ((unhide B3).trans (hb.mono (unhide B3).size))
            clear hb
            go_wp2
            go_ret
            exact ⟨by rw [HR]; rfl, unhide B4⟩
set_option maxRecDepth 20000 in
set_option maxHeartbeats 8000000 in
theorem check_calls (c : Cmd) (a : Option Addr) (tc : Nat) (w : World) (h : CmdAt w c a tc) (hm : Mx w) : Calls Tryz.prog 11 #[cmdVal c a tc] w fun e w' => e = .returned (.int .i64 (checkC c : Int)) ∧ Below w.heap.size w w' := by
  have HE := hide (show checkC c = (if numsOk c && unusedOk c then (if namesOk c then (if wtsOk c.ts then (if 16 < c.ts.length then 6 else 0) else 15) else 14) else 2) from rfl)
  have hn := h.tn.1
  have C1 := hide (numbersMayBe_calls c a tc)
  have C2 := hide (fun W => unusedIsEmpty_calls c a tc W hn h.th h.tp h.tl)
  have C3 := hide (fun W (hb : Below w.heap.size w W) => namesMayBe_calls c a tc W (h.later hb) (hm.later hb))
  have C4 := hide (fun W (hb : Below w.heap.size w W) => weightsMayBe_calls (h.tgs.later hb) c.ts.length tc rfl hn)
  simp only [maxLen] at hn
  unfold cmdVal at *
  generalize checkC c = R at *
  clear h hm
  generalize numsOk c = x1 at *
  generalize unusedOk c = x2 at *
  generalize namesOk c = x3 at *
  generalize wtsOk c.ts = x4 at *
  obtain ⟨act, cli, seq, exp, host, pre, pool, ts⟩ := c
  simp only at *
  generalize ts.length = tn at *
  have X1 := hide (heap_new w (.cells #[.int .i64 act, .int .i64 cli, .int .i64 seq, .int .i64 exp, .string host, .string pre, .string pool, .slice a tn tc] 25))
  have k0 := box_cell (unhide X1) 0 _ rfl
  have k1 := box_cell (unhide X1) 1 _ rfl
  have k2 := box_cell (unhide X1) 2 _ rfl
  have k3 := box_cell (unhide X1) 3 _ rfl
  have k4 := box_cell (unhide X1) 4 _ rfl
  have k5 := box_cell (unhide X1) 5 _ rfl
  have k6 := box_cell (unhide X1) 6 _ rfl
  have k7 := box_cell (unhide X1) 7 _ rfl
  have B0 := hide (show Below w.heap.size w (w.alloc (.cells #[.int .i64 act, .int .i64 cli, .int .i64 seq, .int .i64 exp, .string host, .string pre, .string pool, .slice a tn tc] 25)) from (Below.refl _ _).alloc (Nat.le_refl _) _)
  clear X1
  cases x1
  · skip
    have HR : R = 2 := by
      rw [unhide HE]
      all_goals first | rfl | simp
    clear HE
    go_enter Tryz.func11, Tryz.ntmps11
    go_wp2_with fail
    refine (unhide C1 _).mono ?_
    rintro e V1 ⟨rfl, hb⟩
    replace k0 := cell_later hb k0
    replace k1 := cell_later hb k1
    replace k2 := cell_later hb k2
    replace k3 := cell_later hb k3
    replace k4 := cell_later hb k4
    replace k5 := cell_later hb k5
    replace k6 := cell_later hb k6
    replace k7 := cell_later hb k7
    have B1 := hide ((unhide B0).trans (hb.mono (unhide B0).size))
    clear hb
    go_wp2
    go_ret
    exact ⟨by rw [HR]; rfl, unhide B1⟩
  · cases x2
    · skip
      have HR : R = 2 := by
        rw [unhide HE]
        all_goals first | rfl | simp
      clear HE
      go_enter Tryz.func11, Tryz.ntmps11
      go_wp2_with fail
      refine (unhide C1 _).mono ?_
      rintro e V1 ⟨rfl, hb⟩
      replace k0 := cell_later hb k0
      replace k1 := cell_later hb k1
      replace k2 := cell_later hb k2
      replace k3 := cell_later hb k3
      replace k4 := cell_later hb k4
      replace k5 := cell_later hb k5
      replace k6 := cell_later hb k6
      replace k7 := cell_later hb k7
      have B1 := hide ((unhide B0).trans (hb.mono (unhide B0).size))
      clear hb
      go_wp2_with fail
      refine (unhide C2 _).mono ?_
      rintro e V2 ⟨rfl, hb⟩
      replace k0 := cell_later hb k0
      replace k1 := cell_later hb k1
      replace k2 := cell_later hb k2
      replace k3 := cell_later hb k3
      replace k4 := cell_later hb k4
      replace k5 := cell_later hb k5
      replace k6 := cell_later hb k6
      replace k7 := cell_later hb k7
      have B2 := hide ((unhide B1).trans (hb.mono (unhide B1).size))
      clear hb
      go_wp2
      go_ret
      exact ⟨by rw [HR]; rfl, unhide B2⟩
    · cases x3
      · skip
        have HR : R = 14 := by
          rw [unhide HE]
          all_goals first | rfl | simp
        clear HE
        go_enter Tryz.func11, Tryz.ntmps11
        go_wp2_with fail
        refine (unhide C1 _).mono ?_
        rintro e V1 ⟨rfl, hb⟩
        replace k0 := cell_later hb k0
        replace k1 := cell_later hb k1
        replace k2 := cell_later hb k2
        replace k3 := cell_later hb k3
        replace k4 := cell_later hb k4
        replace k5 := cell_later hb k5
        replace k6 := cell_later hb k6
        replace k7 := cell_later hb k7
        have B1 := hide ((unhide B0).trans (hb.mono (unhide B0).size))
        clear hb
        go_wp2_with fail
        refine (unhide C2 _).mono ?_
        rintro e V2 ⟨rfl, hb⟩
        replace k0 := cell_later hb k0
        replace k1 := cell_later hb k1
        replace k2 := cell_later hb k2
        replace k3 := cell_later hb k3
        replace k4 := cell_later hb k4
        replace k5 := cell_later hb k5
        replace k6 := cell_later hb k6
        replace k7 := cell_later hb k7
        have B2 := hide ((unhide B1).trans (hb.mono (unhide B1).size))
        clear hb
        go_wp2_with fail
        refine (unhide C3 _ (unhide B2)).mono ?_
        rintro e V3 ⟨rfl, hb⟩
        replace k0 := cell_later hb k0
        replace k1 := cell_later hb k1
        replace k2 := cell_later hb k2
        replace k3 := cell_later hb k3
        replace k4 := cell_later hb k4
        replace k5 := cell_later hb k5
        replace k6 := cell_later hb k6
        replace k7 := cell_later hb k7
        have B3 := hide ((unhide B2).trans (hb.mono (unhide B2).size))
        clear hb
        go_wp2
        go_ret
        exact ⟨by rw [HR]; rfl, unhide B3⟩
      · cases x4
        · skip
          have HR : R = 15 := by
            rw [unhide HE]
            all_goals first | rfl | simp
          clear HE
          go_enter Tryz.func11, Tryz.ntmps11
          go_wp2_with fail
          refine (unhide C1 _).mono ?_
          rintro e V1 ⟨rfl, hb⟩
          replace k0 := cell_later hb k0
          replace k1 := cell_later hb k1
          replace k2 := cell_later hb k2
          replace k3 := cell_later hb k3
          replace k4 := cell_later hb k4
          replace k5 := cell_later hb k5
          replace k6 := cell_later hb k6
          replace k7 := cell_later hb k7
          have B1 := hide ((unhide B0).trans (hb.mono (unhide B0).size))
          clear hb
          go_wp2_with fail
          refine (unhide C2 _).mono ?_
          rintro e V2 ⟨rfl, hb⟩
          replace k0 := cell_later hb k0
          replace k1 := cell_later hb k1
          replace k2 := cell_later hb k2
          replace k3 := cell_later hb k3
          replace k4 := cell_later hb k4
          replace k5 := cell_later hb k5
          replace k6 := cell_later hb k6
          replace k7 := cell_later hb k7
          have B2 := hide ((unhide B1).trans (hb.mono (unhide B1).size))
          clear hb
          go_wp2_with fail
          refine (unhide C3 _ (unhide B2)).mono ?_
          rintro e V3 ⟨rfl, hb⟩
          replace k0 := cell_later hb k0
          replace k1 := cell_later hb k1
          replace k2 := cell_later hb k2
          replace k3 := cell_later hb k3
          replace k4 := cell_later hb k4
          replace k5 := cell_later hb k5
          replace k6 := cell_later hb k6
          replace k7 := cell_later hb k7
          have B3 := hide ((unhide B2).trans (hb.mono (unhide B2).size))
          clear hb
          go_wp2_with fail
          refine (unhide C4 _ (unhide B3)).mono ?_
          rintro e V4 ⟨rfl, hb⟩
          replace k0 := cell_later hb k0
          replace k1 := cell_later hb k1
          replace k2 := cell_later hb k2
          replace k3 := cell_later hb k3
          replace k4 := cell_later hb k4
          replace k5 := cell_later hb k5
          replace k6 := cell_later hb k6
          replace k7 := cell_later hb k7
          have B4 := hide ((unhide B3).trans (hb.mono (unhide B3).size))
          clear hb
          go_wp2
          go_ret
          exact ⟨by rw [HR]; rfl, unhide B4⟩
        · by_cases h16 : 16 < tn
          · have i16 : (16 : Int) < (tn : Int) := by omega
            have HR : R = 6 := by
              rw [unhide HE, if_pos (by rfl), if_pos (by rfl), if_pos (by rfl), if_pos h16]
              all_goals first | rfl | simp
            clear HE
            go_enter Tryz.func11, Tryz.ntmps11
            go_wp2_with fail
            refine (unhide C1 _).mono ?_
            rintro e V1 ⟨rfl, hb⟩
            replace k0 := cell_later hb k0
            replace k1 := cell_later hb k1
            replace k2 := cell_later hb k2
            replace k3 := cell_later hb k3
            replace k4 := cell_later hb k4
            replace k5 := cell_later hb k5
            replace k6 := cell_later hb k6
            replace k7 := cell_later hb k7
            have B1 := hide ((unhide B0).trans (hb.mono (unhide B0).size))
            clear hb
            go_wp2_with fail
            refine (unhide C2 _).mono ?_
            rintro e V2 ⟨rfl, hb⟩
            replace k0 := cell_later hb k0
            replace k1 := cell_later hb k1
            replace k2 := cell_later hb k2
            replace k3 := cell_later hb k3
            replace k4 := cell_later hb k4
            replace k5 := cell_later hb k5
            replace k6 := cell_later hb k6
            replace k7 := cell_later hb k7
            have B2 := hide ((unhide B1).trans (hb.mono (unhide B1).size))
            clear hb
            go_wp2_with fail
            refine (unhide C3 _ (unhide B2)).mono ?_
            rintro e V3 ⟨rfl, hb⟩
            replace k0 := cell_later hb k0
            replace k1 := cell_later hb k1
            replace k2 := cell_later hb k2
            replace k3 := cell_later hb k3
            replace k4 := cell_later hb k4
            replace k5 := cell_later hb k5
            replace k6 := cell_later hb k6
            replace k7 := cell_later hb k7
            have B3 := hide ((unhide B2).trans (hb.mono (unhide B2).size))
            clear hb
            go_wp2_with fail
            refine (unhide C4 _ (unhide B3)).mono ?_
            rintro e V4 ⟨rfl, hb⟩
            replace k0 := cell_later hb k0
            replace k1 := cell_later hb k1
            replace k2 := cell_later hb k2
            replace k3 := cell_later hb k3
            replace k4 := cell_later hb k4
            replace k5 := cell_later hb k5
            replace k6 := cell_later hb k6
            replace k7 := cell_later hb k7
            have B4 := hide ((unhide B3).trans (hb.mono (unhide B3).size))
            clear hb
            go_wp2
            go_ret
            exact ⟨by rw [HR]; rfl, unhide B4⟩
          · have i16 : ¬ (16 : Int) < (tn : Int) := by omega
            have HR : R = 0 := by
              rw [unhide HE, if_pos (by rfl), if_pos (by rfl), if_pos (by rfl), if_neg h16]
              all_goals first | rfl | simp
            clear HE
            go_enter Tryz.func11, Tryz.ntmps11
            go_wp2_with fail
            refine (unhide C1 _).mono ?_
            rintro e V1 ⟨rfl, hb⟩
            replace k0 := cell_later hb k0
            replace k1 := cell_later hb k1
            replace k2 := cell_later hb k2
            replace k3 := cell_later hb k3
            replace k4 := cell_later hb k4
            replace k5 := cell_later hb k5
            replace k6 := cell_later hb k6
            replace k7 := cell_later hb k7
            have B1 := hide ((unhide B0).trans (hb.mono (unhide B0).size))
            clear hb
            go_wp2_with fail
            refine (unhide C2 _).mono ?_
            rintro e V2 ⟨rfl, hb⟩
            replace k0 := cell_later hb k0
            replace k1 := cell_later hb k1
            replace k2 := cell_later hb k2
            replace k3 := cell_later hb k3
            replace k4 := cell_later hb k4
            replace k5 := cell_later hb k5
            replace k6 := cell_later hb k6
            replace k7 := cell_later hb k7
            have B2 := hide ((unhide B1).trans (hb.mono (unhide B1).size))
            clear hb
            go_wp2_with fail
            refine (unhide C3 _ (unhide B2)).mono ?_
            rintro e V3 ⟨rfl, hb⟩
            replace k0 := cell_later hb k0
            replace k1 := cell_later hb k1
            replace k2 := cell_later hb k2
            replace k3 := cell_later hb k3
            replace k4 := cell_later hb k4
            replace k5 := cell_later hb k5
            replace k6 := cell_later hb k6
            replace k7 := cell_later hb k7
            have B3 := hide ((unhide B2).trans (hb.mono (unhide B2).size))
            clear hb
            go_wp2_with fail
            refine (unhide C4 _ (unhide B3)).mono ?_
            rintro e V4 ⟨rfl, hb⟩
            replace k0 := cell_later hb k0
            replace k1 := cell_later hb k1
            replace k2 := cell_later hb k2
            replace k3 := cell_later hb k3
            replace k4 := cell_later hb k4
            replace k5 := cell_later hb k5
            replace k6 := cell_later hb k6
            replace k7 := cell_later hb k7
            have B4 := hide ((unhide B3).trans (hb.mono (unhide B3).size))
            clear hb
            go_wp2
            go_ret
            exact ⟨by rw [HR]; rfl, unhide B4⟩
end Go.Proofs.YtpkpnedcecjlbaaGreatDoor
end
/- A slice of bytes that came in, as a list of numbers. -/
section
namespace Go.Proofs.YtpkpnedcecjlbaaGreatDoor
open Go.ChangeShapes Go.WideShapes Go.ChangeAt Go.RowKit

/-- What is told of a slice of integers that came in: it is nil, or it leads to a row of 'cap' cells that hold 'zs'. -/
def IsRow (k : IntKind) (w : World) (a : Option Addr) (len cap : Nat) (zs : List Int) : Prop :=
  (a = none ∧ len = 0 ∧ cap = 0 ∧ zs = []) ∨
  ∃ x, a = some x ∧ len ≤ cap ∧ cap ≤ maxLen ∧ zs.length = cap ∧ (∀ i, i < zs.length → w.cell? (x.add i) = some (.int k (zs.getD i 0))) ∧ ∀ n ∈ zs, (Lit.int k n).wf = true

theorem isRow_bytes {w : World} {a : Option Addr} {len cap : Nat} {zs : List Int} (h : IsRow .u8 w a len cap zs) : ∃ l : List Nat, l.length = len ∧ len ≤ cap ∧ cap ≤ maxLen ∧ cap = zs.length ∧ BytesAt w a l := by
  rcases h with ⟨rfl, rfl, rfl, rfl⟩ | ⟨x, rfl, hl, hm, hz, hcell, hwz⟩
  · exact ⟨[], rfl, Nat.le_refl _, by simp [maxLen], rfl, ⟨by simp, by simp⟩⟩
  · have hbd : ∀ n ∈ zs, 0 ≤ n ∧ n ≤ 255 := fun n hn => bounds_u8 (hwz n hn)
    refine ⟨(zs.take len).map Int.toNat, by simp; omega, hl, hm, hz.symm, ⟨?_, ?_⟩⟩
    · intro c hc
      obtain ⟨n, hn, rfl⟩ := List.mem_map.1 hc
      have := hbd n (List.mem_of_mem_take hn)
      omega
    · intro i hi
      simp only [List.length_map, List.length_take] at hi
      have hiz : i < zs.length := by omega
      have hc := hcell i hiz
      obtain ⟨b, off, spot⟩ := x
      have hspot : spot = none := by simpa [Addr.add] using World.cell?_spot (hcell 0 (by omega))
      subst hspot
      refine ⟨b, off, rfl, ?_⟩
      rw [Addr.add_lit] at hc
      rw [hc]
      have e1 : zs.getD i 0 = zs[i] := by rw [List.getD_eq_getElem?_getD, List.getElem?_eq_getElem hiz]; rfl
      have e2 : ((zs.take len).map Int.toNat).getD i 0 = (zs[i]).toNat := by
        rw [List.getD_eq_getElem?_getD, List.getElem?_map, List.getElem?_take, if_pos (by omega), List.getElem?_eq_getElem hiz]; rfl
      have := hbd zs[i] (List.getElem_mem hiz)
      rw [e1, e2, Int.toNat_of_nonneg this.1]

/-- The bytes of an argument, and how much its reading holds. -/
theorem row8 {H : Type} {enc : TypeId × Value → H} {W : World} {a : Option Addr} {len cap : Nat} {d : DataW H} {p : List MemPlace}
    (h : DataW.Trod enc Tryz.prog W 0 (fun _ => true) true 26 (.slice a len cap) d p) :
    ∃ l : List Nat, l.length = len ∧ len ≤ cap ∧ cap ≤ maxLen ∧ BytesAt W a l ∧ (a = none → cap = 0) ∧ ((d = .nil ∧ cap = 0) ∨ ∃ es sp, d = .slice es sp ∧ es.length + sp.length = cap) := by
  obtain ⟨fuel, hf⟩ := h
  rcases open_ints Tryz.underlying26 Tryz.underlying5 (by kernel_rfl) hf with ⟨hcs, hx⟩ | ⟨x, l, c, zs, hcs, _, hl, hm, hz, hx, hcell, hwz⟩
  · simp [Value.cells] at hcs
    obtain ⟨rfl, rfl, rfl⟩ := hcs
    obtain ⟨k, h1, h2, h3, h4, h5⟩ := isRow_bytes (w := W) (a := none) (len := 0) (cap := 0) (zs := []) (.inl ⟨rfl, rfl, rfl, rfl⟩)
    exact ⟨k, h1, h2, h3, h5, (fun _ => rfl), .inl ⟨(Prod.mk.inj hx).1, rfl⟩⟩
  · simp [Value.cells] at hcs
    obtain ⟨rfl, rfl, rfl⟩ := hcs
    have hz' : zs.length = cap := by simpa using hz
    obtain ⟨k, h1, h2, h3, h4, h5⟩ := isRow_bytes (w := W) (a := some x) (len := len) (cap := cap) (zs := zs) (.inr ⟨_, rfl, hl, hm, hz', hcell, hwz⟩)
    exact ⟨k, h1, h2, h3, h5, (fun h => by cases h), .inr ⟨_, _, (Prod.mk.inj hx).1, by simp [lits]; omega⟩⟩
theorem bytes8 : Tryz.prog.bytesOf 5 = 1 := by kernel_rfl
theorem reach8 {H : Type} {ts : List TypeId} {ds : List (DataW H)} (h : (DataW.weightsEach Tryz.prog ts ds).all (· ≤ reachBytes) = true) {j cap : Nat} {d : DataW H} (ht : ts[j]? = some 26) (hd : ds[j]? = some d)
    (hr : (d = .nil ∧ cap = 0) ∨ ∃ es sp, d = .slice es sp ∧ es.length + sp.length = cap) : cap ≤ 140737488355328 := by
  rcases hr with ⟨_, rfl⟩ | ⟨es, sp, rfl, rfl⟩
  · omega
  · have := sized_slice h ht hd Tryz.underlying26
    rw [bytes8] at this
    have := reachBytes_lt
    omega

theorem u32_nat {n : Int} (h : (Lit.int .u32 n).wf = true) : ∃ m : Nat, n = (m : Int) ∧ m < 4294967296 := by
  have := bounds_u32 h
  exact ⟨n.toNat, by omega, by omega⟩
theorem i64_bounds {n : Int} (h : (Lit.int .i64 n).wf = true) : -9223372036854775808 ≤ n ∧ n ≤ 9223372036854775807 := bounds_i64 h
end Go.Proofs.YtpkpnedcecjlbaaGreatDoor
end
