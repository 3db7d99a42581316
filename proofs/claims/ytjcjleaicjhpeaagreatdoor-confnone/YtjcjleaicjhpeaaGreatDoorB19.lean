/- Conf: what an act does not use is empty. -/
import Derived.Test.YtjcjleaicjhpeaaGreatDoorB18
section
namespace Go.Proofs.YtjcjleaicjhpeaaGreatDoor
open Go.ChangeShapes Go.WideShapes Go.ChangeAt Go.RowKit
set_option linter.unusedVariables false

def emp (s : ByteArray) : Bool := decide (s.size = 0)
theorem emp_eq (s : ByteArray) : (s.toList == []) = emp s := by
  rw [ByteArray.toList_eq, Bool.eq_iff_iff, beq_iff_eq]
  unfold emp
  rw [decide_eq_true_eq, size0]
theorem nil_toList : (⟨#[]⟩ : ByteArray).toList = [] := by rw [ByteArray.toList_eq]
set_option maxRecDepth 20000 in
set_option maxHeartbeats 8000000 in
theorem unusedIsEmpty_calls (c : Cmd) (a : Option Addr) (tc : Nat) (w : World) (hn : c.ts.length ≤ maxLen) (z1 : c.host.size ≤ 140737488355328) (z2 : c.pre.size ≤ 140737488355328) (z3 : c.pool.size ≤ 140737488355328) : Calls Tryz.prog 37 #[cmdVal c a tc] w fun e w' => e = .returned (.bool (unusedOk c)) ∧ Below w.heap.size w w' := by
  have HE := hide (show unusedOk c = ((isRoute c.act || (emp c.host && emp c.pre)) && (!decide (c.act = 4) || emp c.pool) && (decide (c.act = 1) || decide (c.ts.length = 0))) from rfl)
  unfold cmdVal
  obtain ⟨act, cli, seq, exp, host, pre, pool, ts⟩ := c
  simp only [maxLen] at *
  generalize unusedOk ⟨act, cli, seq, exp, host, pre, pool, ts⟩ = R at *
  generalize ts.length = tn at *
  have X1 := hide (heap_new w (.cells #[.int .i64 act, .int .i64 cli, .int .i64 seq, .int .i64 exp, .string host, .string pre, .string pool, .slice a tn tc] 33))
  have k0 := box_cell (unhide X1) 0 _ rfl
  have k4 := box_cell (unhide X1) 4 _ rfl
  have k5 := box_cell (unhide X1) 5 _ rfl
  have k6 := box_cell (unhide X1) 6 _ rfl
  have k7 := box_cell (unhide X1) 7 _ rfl
  have B0 := hide (show Below w.heap.size w (w.alloc (.cells #[.int .i64 act, .int .i64 cli, .int .i64 seq, .int .i64 exp, .string host, .string pre, .string pool, .slice a tn tc] 33)) from (Below.refl _ _).alloc (Nat.le_refl _) _)
  have BN := hide (show ∀ k, Below w.heap.size w ((w.alloc (.cells #[.int .i64 act, .int .i64 cli, .int .i64 seq, .int .i64 exp, .string host, .string pre, .string pool, .slice a tn tc] 33)).drewN k) from fun k => ⟨(unhide B0).os, (unhide B0).tape, (unhide B0).output, (unhide B0).size, (unhide B0).block⟩)
  have RC := hide (ofRoute_calls act)
  have e4 := emp_eq host
  have e5 := emp_eq pre
  have e6 := emp_eq pool
  have nl := nil_toList
  clear X1
  generalize emp host = x4 at *
  generalize emp pre = x5 at *
  generalize emp pool = x6 at *
  generalize isRoute act = x1 at *
  cases x1
  · cases x4
    · skip
      have HR : R = false := by
        rw [unhide HE]
        first | rfl | simp
      clear HE
      go_enter Tryz.func37, Tryz.ntmps37
      go_wp2_with fail
      refine (unhide RC _).mono ?_
      rintro e V1 ⟨rfl, rfl⟩
      go_wp2
      go_ret
      exact ⟨by rw [HR]; rfl, by first | exact unhide B0 | exact unhide BN _⟩
    · cases x5
      · skip
        have HR : R = false := by
          rw [unhide HE]
          first | rfl | simp
        clear HE
        go_enter Tryz.func37, Tryz.ntmps37
        go_wp2_with fail
        refine (unhide RC _).mono ?_
        rintro e V1 ⟨rfl, rfl⟩
        go_wp2
        go_ret
        exact ⟨by rw [HR]; rfl, by first | exact unhide B0 | exact unhide BN _⟩
      · skip
        by_cases h4 : act = 4
        · subst h4
          cases x6
          · skip
            have HR : R = false := by
              rw [unhide HE]
              first | rfl | simp
            clear HE
            go_enter Tryz.func37, Tryz.ntmps37
            go_wp2_with fail
            refine (unhide RC _).mono ?_
            rintro e V1 ⟨rfl, rfl⟩
            go_wp2
            go_ret
            exact ⟨by rw [HR]; rfl, by first | exact unhide B0 | exact unhide BN _⟩
          · skip
            by_cases h0 : tn = 0
            · subst h0
              have HR : R = true := by
                rw [unhide HE]
                first | rfl | simp
              clear HE
              go_enter Tryz.func37, Tryz.ntmps37
              go_wp2_with fail
              refine (unhide RC _).mono ?_
              rintro e V1 ⟨rfl, rfl⟩
              go_wp2
              go_ret
              exact ⟨by rw [HR]; rfl, by first | exact unhide B0 | exact unhide BN _⟩
            · have i0 : ((tn : Int) == 0) = false := by simpa using h0
              have d0 : decide (tn = 0) = false := decide_eq_false h0
              have HR : R = false := by
                rw [unhide HE, d0]
                first | rfl | simp
              clear HE
              go_enter Tryz.func37, Tryz.ntmps37
              go_wp2_with fail
              refine (unhide RC _).mono ?_
              rintro e V1 ⟨rfl, rfl⟩
              go_wp2
              go_ret
              exact ⟨by rw [HR]; rfl, by first | exact unhide B0 | exact unhide BN _⟩
        · have i4 : (act == 4) = false := by simpa using h4
          have j4 : (act != 4) = true := by simpa using h4
          have d4 : decide (act = 4) = false := decide_eq_false h4
          by_cases h1 : act = 1
          · subst h1
            have HR : R = true := by
              rw [unhide HE]
              first | rfl | simp
            clear HE
            go_enter Tryz.func37, Tryz.ntmps37
            go_wp2_with fail
            refine (unhide RC _).mono ?_
            rintro e V1 ⟨rfl, rfl⟩
            go_wp2
            go_ret
            exact ⟨by rw [HR]; rfl, by first | exact unhide B0 | exact unhide BN _⟩
          · have i1 : (act == 1) = false := by simpa using h1
            have d1 : decide (act = 1) = false := decide_eq_false h1
            by_cases h0 : tn = 0
            · subst h0
              have HR : R = true := by
                rw [unhide HE, d4, d1]
                first | rfl | simp
              clear HE
              go_enter Tryz.func37, Tryz.ntmps37
              go_wp2_with fail
              refine (unhide RC _).mono ?_
              rintro e V1 ⟨rfl, rfl⟩
              go_wp2
              go_ret
              exact ⟨by rw [HR]; rfl, by first | exact unhide B0 | exact unhide BN _⟩
            · have i0 : ((tn : Int) == 0) = false := by simpa using h0
              have d0 : decide (tn = 0) = false := decide_eq_false h0
              have HR : R = false := by
                rw [unhide HE, d4, d1, d0]
                first | rfl | simp
              clear HE
              go_enter Tryz.func37, Tryz.ntmps37
              go_wp2_with fail
              refine (unhide RC _).mono ?_
              rintro e V1 ⟨rfl, rfl⟩
              go_wp2
              go_ret
              exact ⟨by rw [HR]; rfl, by first | exact unhide B0 | exact unhide BN _⟩
  · skip
    by_cases h4 : act = 4
    · subst h4
      cases x6
      · skip
        have HR : R = false := by
          rw [unhide HE]
          first | rfl | simp
        clear HE
        go_enter Tryz.func37, Tryz.ntmps37
        go_wp2_with fail
        refine (unhide RC _).mono ?_
        rintro e V1 ⟨rfl, rfl⟩
        go_wp2
        go_ret
        exact ⟨by rw [HR]; rfl, by first | exact unhide B0 | exact unhide BN _⟩
      · skip
        by_cases h0 : tn = 0
        · subst h0
          have HR : R = true := by
            rw [unhide HE]
            first | rfl | simp
          clear HE
          go_enter Tryz.func37, Tryz.ntmps37
          go_wp2_with fail
          refine (unhide RC _).mono ?_
          rintro e V1 ⟨rfl, rfl⟩
          go_wp2
          go_ret
          exact ⟨by rw [HR]; rfl, by first | exact unhide B0 | exact unhide BN _⟩
        · have i0 : ((tn : Int) == 0) = false := by simpa using h0
          have d0 : decide (tn = 0) = false := decide_eq_false h0
          have HR : R = false := by
            rw [unhide HE, d0]
            first | rfl | simp
          clear HE
          go_enter Tryz.func37, Tryz.ntmps37
          go_wp2_with fail
          refine (unhide RC _).mono ?_
          rintro e V1 ⟨rfl, rfl⟩
          go_wp2
          go_ret
          exact ⟨by rw [HR]; rfl, by first | exact unhide B0 | exact unhide BN _⟩
    · have i4 : (act == 4) = false := by simpa using h4
      have j4 : (act != 4) = true := by simpa using h4
      have d4 : decide (act = 4) = false := decide_eq_false h4
      by_cases h1 : act = 1
      · subst h1
        have HR : R = true := by
          rw [unhide HE]
          first | rfl | simp
        clear HE
        go_enter Tryz.func37, Tryz.ntmps37
        go_wp2_with fail
        refine (unhide RC _).mono ?_
        rintro e V1 ⟨rfl, rfl⟩
        go_wp2
        go_ret
        exact ⟨by rw [HR]; rfl, by first | exact unhide B0 | exact unhide BN _⟩
      · have i1 : (act == 1) = false := by simpa using h1
        have d1 : decide (act = 1) = false := decide_eq_false h1
        by_cases h0 : tn = 0
        · subst h0
          have HR : R = true := by
            rw [unhide HE, d4, d1]
            first | rfl | simp
          clear HE
          go_enter Tryz.func37, Tryz.ntmps37
          go_wp2_with fail
          refine (unhide RC _).mono ?_
          rintro e V1 ⟨rfl, rfl⟩
          go_wp2
          go_ret
          exact ⟨by rw [HR]; rfl, by first | exact unhide B0 | exact unhide BN _⟩
        · have i0 : ((tn : Int) == 0) = false := by simpa using h0
          have d0 : decide (tn = 0) = false := decide_eq_false h0
          have HR : R = false := by
            rw [unhide HE, d4, d1, d0]
            first | rfl | simp
          clear HE
          go_enter Tryz.func37, Tryz.ntmps37
          go_wp2_with fail
          refine (unhide RC _).mono ?_
          rintro e V1 ⟨rfl, rfl⟩
          go_wp2
          go_ret
          exact ⟨by rw [HR]; rfl, by first | exact unhide B0 | exact unhide BN _⟩

end Go.Proofs.YtjcjleaicjhpeaaGreatDoor
end
/- Conf: names of a command; Check. -/
section
namespace Go.Proofs.YtjcjleaicjhpeaaGreatDoor
open Go.ChangeShapes Go.WideShapes Go.ChangeAt Go.RowKit
set_option linter.unusedVariables false

set_option maxRecDepth 20000 in
set_option maxHeartbeats 8000000 in
theorem namesMayBe_calls (c : Cmd) (a : Option Addr) (tc : Nat) (w : World) (h : CmdAt w c a tc) (hm : Mx w) : Calls Tryz.prog 38 #[cmdVal c a tc] w fun e w' => e = .returned (.bool (namesOk c)) ∧ Below w.heap.size w w' := by
  have HE := hide (show namesOk c = ((!isRoute c.act || (hostT c.host && prefT c.pre)) && (decide (c.act = 4) || nameT c.pool) && c.ts.all (fun t => addrT t.1)) from rfl)
  have HT := hide h.tgs
  have HZ := hide h.tz
  have z1 := h.th
  have z2 := h.tp
  have z3 := h.tl
  have hn := h.tn.1
  have HM := hide hm
  unfold cmdVal
  clear h hm
  obtain ⟨act, cli, seq, exp, host, pre, pool, ts⟩ := c
  simp only at *
  generalize namesOk ⟨act, cli, seq, exp, host, pre, pool, ts⟩ = R at *
  have CA := hide (fun W (hb : Below w.heap.size w W) => addressesMayBe_calls ((unhide HT).later hb) (unhide HZ) ts.length tc rfl hn)
  generalize ts.all (fun t => addrT t.1) = x4 at *
  generalize ts.length = tn at *
  have X1 := hide (heap_new w (.cells #[.int .i64 act, .int .i64 cli, .int .i64 seq, .int .i64 exp, .string host, .string pre, .string pool, .slice a tn tc] 33))
  have k0 := box_cell (unhide X1) 0 _ rfl
  have k4 := box_cell (unhide X1) 4 _ rfl
  have k5 := box_cell (unhide X1) 5 _ rfl
  have k6 := box_cell (unhide X1) 6 _ rfl
  have k7 := box_cell (unhide X1) 7 _ rfl
  have B0 := hide (show Below w.heap.size w (w.alloc (.cells #[.int .i64 act, .int .i64 cli, .int .i64 seq, .int .i64 exp, .string host, .string pre, .string pool, .slice a tn tc] 33)) from (Below.refl _ _).alloc (Nat.le_refl _) _)
  have RC := hide (ofRoute_calls act)
  have C1 := hide (fun W (hb : Below w.heap.size w W) => isHost_calls host z1 W ((unhide HM).later hb))
  have C2 := hide (isPrefix_calls pre z2)
  have C3 := hide (isName_calls pool z3)
  clear X1 HT HZ HM z1 z2 z3
  generalize hostT host = x1 at *
  generalize prefT pre = x2 at *
  generalize nameT pool = x3 at *
  generalize isRoute act = x0 at *
  cases x0
  · skip
    by_cases h4 : act = 4
    · subst h4
      have HR : R = x4 := by
        rw [unhide HE]
        all_goals first | rfl | simp
      clear HE
      go_enter Tryz.func38, Tryz.ntmps38
      go_wp2_with fail
      refine (unhide RC _).mono ?_
      rintro e V ⟨rfl, rfl⟩
      go_wp2_with fail
      refine (unhide CA _ (unhide B0)).mono ?_
      rintro e V1 ⟨rfl, hb⟩
      replace k0 := cell_later hb k0
      replace k4 := cell_later hb k4
      replace k5 := cell_later hb k5
      replace k6 := cell_later hb k6
      replace k7 := cell_later hb k7
      have B1 := hide ((unhide B0).trans (hb.mono (unhide B0).size))
      clear hb
      go_wp2
      go_ret
      exact ⟨by rw [HR]; rfl, unhide B1⟩
    · have i4 : (act == 4) = false := by simpa using h4
      have d4 : decide (act = 4) = false := decide_eq_false h4
      cases x3
      · skip
        have HR : R = false := by
          rw [unhide HE, d4]
          all_goals first | rfl | simp
        clear HE
        go_enter Tryz.func38, Tryz.ntmps38
        go_wp2_with fail
        refine (unhide RC _).mono ?_
        rintro e V ⟨rfl, rfl⟩
        go_wp2_with fail
        refine (unhide C3 _).mono ?_
        rintro e V1 ⟨rfl, hb⟩
        replace k0 := cell_later hb k0
        replace k4 := cell_later hb k4
        replace k5 := cell_later hb k5
        replace k6 := cell_later hb k6
        replace k7 := cell_later hb k7
        have B1 := hide ((unhide B0).trans (hb.mono (unhide B0).size))
        clear hb
        go_wp2
        go_ret
        exact ⟨by rw [HR]; rfl, unhide B1⟩
      · skip
        have HR : R = x4 := by
          rw [unhide HE, d4]
          all_goals first | rfl | simp
        clear HE
        go_enter Tryz.func38, Tryz.ntmps38
        go_wp2_with fail
        refine (unhide RC _).mono ?_
        rintro e V ⟨rfl, rfl⟩
        go_wp2_with fail
        refine (unhide C3 _).mono ?_
        rintro e V1 ⟨rfl, hb⟩
        replace k0 := cell_later hb k0
        replace k4 := cell_later hb k4
        replace k5 := cell_later hb k5
        replace k6 := cell_later hb k6
        replace k7 := cell_later hb k7
        have B1 := hide ((unhide B0).trans (hb.mono (unhide B0).size))
        clear hb
        go_wp2_with fail
        refine (unhide CA _ (unhide B1)).mono ?_
        rintro e V2 ⟨rfl, hb⟩
        replace k0 := cell_later hb k0
        replace k4 := cell_later hb k4
        replace k5 := cell_later hb k5
        replace k6 := cell_later hb k6
        replace k7 := cell_later hb k7
        have B2 := hide ((unhide B1).trans (hb.mono (unhide B1).size))
        clear hb
        go_wp2
        go_ret
        exact ⟨by rw [HR]; rfl, unhide B2⟩
  · cases x1
    · skip
      have HR : R = false := by
        rw [unhide HE]
        all_goals first | rfl | simp
      clear HE
      go_enter Tryz.func38, Tryz.ntmps38
      go_wp2_with fail
      refine (unhide RC _).mono ?_
      rintro e V ⟨rfl, rfl⟩
      go_wp2_with fail
      refine (unhide C1 _ (unhide B0)).mono ?_
      rintro e V1 ⟨rfl, hb⟩
      replace k0 := cell_later hb k0
      replace k4 := cell_later hb k4
      replace k5 := cell_later hb k5
      replace k6 := cell_later hb k6
      replace k7 := cell_later hb k7
      have B1 := hide ((unhide B0).trans (hb.mono (unhide B0).size))
      clear hb
      go_wp2
      go_ret
      exact ⟨by rw [HR]; rfl, unhide B1⟩
    · cases x2
      · skip
        have HR : R = false := by
          rw [unhide HE]
          all_goals first | rfl | simp
        clear HE
        go_enter Tryz.func38, Tryz.ntmps38
        go_wp2_with fail
        refine (unhide RC _).mono ?_
        rintro e V ⟨rfl, rfl⟩
        go_wp2_with fail
        refine (unhide C1 _ (unhide B0)).mono ?_
        rintro e V1 ⟨rfl, hb⟩
        replace k0 := cell_later hb k0
        replace k4 := cell_later hb k4
        replace k5 := cell_later hb k5
        replace k6 := cell_later hb k6
        replace k7 := cell_later hb k7
        have B1 := hide ((unhide B0).trans (hb.mono (unhide B0).size))
        clear hb
        go_wp2_with fail
        refine (unhide C2 _).mono ?_
        rintro e V2 ⟨rfl, hb⟩
        replace k0 := cell_later hb k0
        replace k4 := cell_later hb k4
        replace k5 := cell_later hb k5
        replace k6 := cell_later hb k6
        replace k7 := cell_later hb k7
        have B2 := hide ((unhide B1).trans (hb.mono (unhide B1).size))
        clear hb
        go_wp2
        go_ret
        exact ⟨by rw [HR]; rfl, unhide B2⟩
      · skip
        by_cases h4 : act = 4
        · subst h4
          have HR : R = x4 := by
            rw [unhide HE]
            all_goals first | rfl | simp
          clear HE
          go_enter Tryz.func38, Tryz.ntmps38
          go_wp2_with fail
          refine (unhide RC _).mono ?_
          rintro e V ⟨rfl, rfl⟩
          go_wp2_with fail
          refine (unhide C1 _ (unhide B0)).mono ?_
          rintro e V1 ⟨rfl, hb⟩
          replace k0 := cell_later hb k0
          replace k4 := cell_later hb k4
          replace k5 := cell_later hb k5
          replace k6 := cell_later hb k6
          replace k7 := cell_later hb k7
          have B1 := hide ((unhide B0).trans (hb.mono (unhide B0).size))
          clear hb
          go_wp2_with fail
          refine (unhide C2 _).mono ?_
          rintro e V2 ⟨rfl, hb⟩
          replace k0 := cell_later hb k0
          replace k4 := cell_later hb k4
          replace k5 := cell_later hb k5
          replace k6 := cell_later hb k6
          replace k7 := cell_later hb k7
          have B2 := hide ((unhide B1).trans (hb.mono (unhide B1).size))
          clear hb
          go_wp2_with fail
          refine (unhide CA _ (unhide B2)).mono ?_
          rintro e V3 ⟨rfl, hb⟩
          replace k0 := cell_later hb k0
          replace k4 := cell_later hb k4
          replace k5 := cell_later hb k5
          replace k6 := cell_later hb k6
          replace k7 := cell_later hb k7
          have B3 := hide ((unhide B2).trans (hb.mono (unhide B2).size))
          clear hb
          go_wp2
          go_ret
          exact ⟨by rw [HR]; rfl, unhide B3⟩
        · have i4 : (act == 4) = false := by simpa using h4
          have d4 : decide (act = 4) = false := decide_eq_false h4
          cases x3
          · skip
            have HR : R = false := by
              rw [unhide HE, d4]
              all_goals first | rfl | simp
            clear HE
            go_enter Tryz.func38, Tryz.ntmps38
            go_wp2_with fail
            refine (unhide RC _).mono ?_
            rintro e V ⟨rfl, rfl⟩
            go_wp2_with fail
            refine (unhide C1 _ (unhide B0)).mono ?_
            rintro e V1 ⟨rfl, hb⟩
            replace k0 := cell_later hb k0
            replace k4 := cell_later hb k4
            replace k5 := cell_later hb k5
            replace k6 := cell_later hb k6
            replace k7 := cell_later hb k7
            have B1 := hide ((unhide B0).trans (hb.mono (unhide B0).size))
            clear hb
            go_wp2_with fail
            refine (unhide C2 _).mono ?_
            rintro e V2 ⟨rfl, hb⟩
            replace k0 := cell_later hb k0
            replace k4 := cell_later hb k4
            replace k5 := cell_later hb k5
            replace k6 := cell_later hb k6
            replace k7 := cell_later hb k7
            have B2 := hide ((unhide B1).trans (hb.mono (unhide B1).size))
            clear hb
            go_wp2_with fail
            refine (unhide C3 _).mono ?_
            rintro e V3 ⟨rfl, hb⟩
            replace k0 := cell_later hb k0
            replace k4 := cell_later hb k4
            replace k5 := cell_later hb k5
            replace k6 := cell_later hb k6
            replace k7 := cell_later hb k7
            have B3 := hide ((unhide B2).trans (hb.mono (unhide B2).size))
            clear hb
            go_wp2
            go_ret
            exact ⟨by rw [HR]; rfl, unhide B3⟩
          · skip
            have HR : R = x4 := by
              rw [unhide HE, d4]
              all_goals first | rfl | simp
            clear HE
            go_enter Tryz.func38, Tryz.ntmps38
            go_wp2_with fail
            refine (unhide RC _).mono ?_
            rintro e V ⟨rfl, rfl⟩
            go_wp2_with fail
            refine (unhide C1 _ (unhide B0)).mono ?_
            rintro e V1 ⟨rfl, hb⟩
            replace k0 := cell_later hb k0
            replace k4 := cell_later hb k4
            replace k5 := cell_later hb k5
            replace k6 := cell_later hb k6
            replace k7 := cell_later hb k7
            have B1 := hide ((unhide B0).trans (hb.mono (unhide B0).size))
            clear hb
            go_wp2_with fail
            refine (unhide C2 _).mono ?_
            rintro e V2 ⟨rfl, hb⟩
            replace k0 := cell_later hb k0
            replace k4 := cell_later hb k4
            replace k5 := cell_later hb k5
            replace k6 := cell_later hb k6
            replace k7 := cell_later hb k7
            have B2 := hide ((unhide B1).trans (hb.mono (unhide B1).size))
            clear hb
            go_wp2_with fail
            refine (unhide C3 _).mono ?_
            rintro e V3 ⟨rfl, hb⟩
            replace k0 := cell_later hb k0
            replace k4 := cell_later hb k4
            replace k5 := cell_later hb k5
            replace k6 := cell_later hb k6
            replace k7 := cell_later hb k7
            have B3 := hide ((unhide B2).trans (hb.mono (unhide B2).size))
            clear hb
            go_wp2_with fail
            refine (unhide CA _ (unhide B3)).mono ?_
            rintro e V4 ⟨rfl, hb⟩
            replace k0 := cell_later hb k0
            replace k4 := cell_later hb k4
            replace k5 := cell_later hb k5
            replace k6 := cell_later hb k6
            replace k7 := cell_later hb k7
            have B4 := hide ((unhide B3).trans (hb.mono (unhide B3).size))
            clear hb
            go_wp2
            go_ret
            exact ⟨by rw [HR]; rfl, unhide B4⟩
set_option maxRecDepth 20000 in
set_option maxHeartbeats 8000000 in
theorem check_calls (c : Cmd) (a : Option Addr) (tc : Nat) (w : World) (h : CmdAt w c a tc) (hm : Mx w) : Calls Tryz.prog 16 #[cmdVal c a tc] w fun e w' => e = .returned (.int .i64 (checkC c : Int)) ∧ Below w.heap.size w w' := by
  have HE := hide (show checkC c = (if numsOk c && unusedOk c then (if namesOk c then (if wtsOk c.ts then (if 16 < c.ts.length then 6 else 0) else 15) else 14) else 2) from rfl)
  have hn := h.tn.1
  have C1 := hide (numbersMayBe_calls c a tc)
  have C2 := hide (fun W => unusedIsEmpty_calls c a tc W hn h.th h.tp h.tl)
  have C3 := hide (fun W (hb : Below w.heap.size w W) => namesMayBe_calls c a tc W (h.later hb) (hm.later hb))
  have C4 := hide (fun W (hb : Below w.heap.size w W) => weightsMayBe_calls (h.tgs.later hb) c.ts.length tc rfl hn)
  simp only [maxLen] at hn
  unfold cmdVal at *
  generalize checkC c = R at *
  clear h hm
  generalize numsOk c = x1 at *
  generalize unusedOk c = x2 at *
  generalize namesOk c = x3 at *
  generalize wtsOk c.ts = x4 at *
  obtain ⟨act, cli, seq, exp, host, pre, pool, ts⟩ := c
  simp only at *
  generalize ts.length = tn at *
  have X1 := hide (heap_new w (.cells #[.int .i64 act, .int .i64 cli, .int .i64 seq, .int .i64 exp, .string host, .string pre, .string pool, .slice a tn tc] 33))
  have k0 := box_cell (unhide X1) 0 _ rfl
  have k1 := box_cell (unhide X1) 1 _ rfl
  have k2 := box_cell (unhide X1) 2 _ rfl
  have k3 := box_cell (unhide X1) 3 _ rfl
  have k4 := box_cell (unhide X1) 4 _ rfl
  have k5 := box_cell (unhide X1) 5 _ rfl
  have k6 := box_cell (unhide X1) 6 _ rfl
  have k7 := box_cell (unhide X1) 7 _ rfl
  have B0 := hide (show Below w.heap.size w (w.alloc (.cells #[.int .i64 act, .int .i64 cli, .int .i64 seq, .int .i64 exp, .string host, .string pre, .string pool, .slice a tn tc] 33)) from (Below.refl _ _).alloc (Nat.le_refl _) _)
  clear X1
  cases x1
  · skip
    have HR : R = 2 := by
      rw [unhide HE]
      all_goals first | rfl | simp
    clear HE
    go_enter Tryz.func16, Tryz.ntmps16
    go_wp2_with fail
    refine (unhide C1 _).mono ?_
    rintro e V1 ⟨rfl, hb⟩
    replace k0 := cell_later hb k0
    replace k1 := cell_later hb k1
    replace k2 := cell_later hb k2
    replace k3 := cell_later hb k3
    replace k4 := cell_later hb k4
    replace k5 := cell_later hb k5
    replace k6 := cell_later hb k6
    replace k7 := cell_later hb k7
    have B1 := hide ((unhide B0).trans (hb.mono (unhide B0).size))
    clear hb
    go_wp2
    go_ret
    exact ⟨by rw [HR]; rfl, unhide B1⟩
  · cases x2
    · skip
      have HR : R = 2 := by
        rw [unhide HE]
        all_goals first | rfl | simp
      clear HE
      go_enter Tryz.func16, Tryz.ntmps16
      go_wp2_with fail
      refine (unhide C1 _).mono ?_
      rintro e V1 ⟨rfl, hb⟩
      replace k0 := cell_later hb k0
      replace k1 := cell_later hb k1
      replace k2 := cell_later hb k2
      replace k3 := cell_later hb k3
      replace k4 := cell_later hb k4
      replace k5 := cell_later hb k5
      replace k6 := cell_later hb k6
      replace k7 := cell_later hb k7
      have B1 := hide ((unhide B0).trans (hb.mono (unhide B0).size))
      clear hb
      go_wp2_with fail
      refine (unhide C2 _).mono ?_
      rintro e V2 ⟨rfl, hb⟩
      replace k0 := cell_later hb k0
      replace k1 := cell_later hb k1
      replace k2 := cell_later hb k2
      replace k3 := cell_later hb k3
      replace k4 := cell_later hb k4
      replace k5 := cell_later hb k5
      replace k6 := cell_later hb k6
      replace k7 := cell_later hb k7
      have B2 := hide ((unhide B1).trans (hb.mono (unhide B1).size))
      clear hb
      go_wp2
      go_ret
      exact ⟨by rw [HR]; rfl, unhide B2⟩
    · cases x3
      · skip
        have HR : R = 14 := by
          rw [unhide HE]
          all_goals first | rfl | simp
        clear HE
        go_enter Tryz.func16, Tryz.ntmps16
        go_wp2_with fail
        refine (unhide C1 _).mono ?_
        rintro e V1 ⟨rfl, hb⟩
        replace k0 := cell_later hb k0
        replace k1 := cell_later hb k1
        replace k2 := cell_later hb k2
        replace k3 := cell_later hb k3
        replace k4 := cell_later hb k4
        replace k5 := cell_later hb k5
        replace k6 := cell_later hb k6
        replace k7 := cell_later hb k7
        have B1 := hide ((unhide B0).trans (hb.mono (unhide B0).size))
        clear hb
        go_wp2_with fail
        refine (unhide C2 _).mono ?_
        rintro e V2 ⟨rfl, hb⟩
        replace k0 := cell_later hb k0
        replace k1 := cell_later hb k1
        replace k2 := cell_later hb k2
        replace k3 := cell_later hb k3
        replace k4 := cell_later hb k4
        replace k5 := cell_later hb k5
        replace k6 := cell_later hb k6
        replace k7 := cell_later hb k7
        have B2 := hide ((unhide B1).trans (hb.mono (unhide B1).size))
        clear hb
        go_wp2_with fail
        refine (unhide C3 _ (unhide B2)).mono ?_
        rintro e V3 ⟨rfl, hb⟩
        replace k0 := cell_later hb k0
        replace k1 := cell_later hb k1
        replace k2 := cell_later hb k2
        replace k3 := cell_later hb k3
        replace k4 := cell_later hb k4
        replace k5 := cell_later hb k5
        replace k6 := cell_later hb k6
        replace k7 := cell_later hb k7
        have B3 := hide ((unhide B2).trans (hb.mono (unhide B2).size))
        clear hb
        go_wp2
        go_ret
        exact ⟨by rw [HR]; rfl, unhide B3⟩
      · cases x4
        · skip
          have HR : R = 15 := by
            rw [unhide HE]
            all_goals first | rfl | simp
          clear HE
          go_enter Tryz.func16, Tryz.ntmps16
          go_wp2_with fail
          refine (unhide C1 _).mono ?_
          rintro e V1 ⟨rfl, hb⟩
          replace k0 := cell_later hb k0
          replace k1 := cell_later hb k1
          replace k2 := cell_later hb k2
          replace k3 := cell_later hb k3
          replace k4 := cell_later hb k4
          replace k5 := cell_later hb k5
          replace k6 := cell_later hb k6
          replace k7 := cell_later hb k7
          have B1 := hide ((unhide B0).trans (hb.mono (unhide B0).size))
          clear hb
          go_wp2_with fail
          refine (unhide C2 _).mono ?_
          rintro e V2 ⟨rfl, hb⟩
          replace k0 := cell_later hb k0
          replace k1 := cell_later hb k1
          replace k2 := cell_later hb k2
          replace k3 := cell_later hb k3
          replace k4 := cell_later hb k4
          replace k5 := cell_later hb k5
          replace k6 := cell_later hb k6
          replace k7 := cell_later hb k7
          have B2 := hide ((unhide B1).trans (hb.mono (unhide B1).size))
          clear hb
          go_wp2_with fail
          refine (unhide C3 _ (unhide B2)).mono ?_
          rintro e V3 ⟨rfl, hb⟩
          replace k0 := cell_later hb k0
          replace k1 := cell_later hb k1
          replace k2 := cell_later hb k2
          replace k3 := cell_later hb k3
          replace k4 := cell_later hb k4
          replace k5 := cell_later hb k5
          replace k6 := cell_later hb k6
          replace k7 := cell_later hb k7
          have B3 := hide ((unhide B2).trans (hb.mono (unhide B2).size))
          clear hb
          go_wp2_with fail
          refine (unhide C4 _ (unhide B3)).mono ?_
          rintro e V4 ⟨rfl, hb⟩
          replace k0 := cell_later hb k0
          replace k1 := cell_later hb k1
          replace k2 := cell_later hb k2
          replace k3 := cell_later hb k3
          replace k4 := cell_later hb k4
          replace k5 := cell_later hb k5
          replace k6 := cell_later hb k6
          replace k7 := cell_later hb k7
          have B4 := hide ((unhide B3).trans (hb.mono (unhide B3).size))
          clear hb
          go_wp2
          go_ret
          exact ⟨by rw [HR]; rfl, unhide B4⟩
        · by_cases h16 : 16 < tn
          · have i16 : (16 : Int) < (tn : Int) := by omega
            have HR : R = 6 := by
              rw [unhide HE, if_pos (by rfl), if_pos (by rfl), if_pos (by rfl), if_pos h16]
              all_goals first | rfl | simp
            clear HE
            go_enter Tryz.func16, Tryz.ntmps16
            go_wp2_with fail
            refine (unhide C1 _).mono ?_
            rintro e V1 ⟨rfl, hb⟩
            replace k0 := cell_later hb k0
            replace k1 := cell_later hb k1
            replace k2 := cell_later hb k2
            replace k3 := cell_later hb k3
            replace k4 := cell_later hb k4
            replace k5 := cell_later hb k5
            replace k6 := cell_later hb k6
            replace k7 := cell_later hb k7
            have B1 := hide ((unhide B0).trans (hb.mono (unhide B0).size))
            clear hb
            go_wp2_with fail
            refine (unhide C2 _).mono ?_
            rintro e V2 ⟨rfl, hb⟩
            replace k0 := cell_later hb k0
            replace k1 := cell_later hb k1
            replace k2 := cell_later hb k2
            replace k3 := cell_later hb k3
            replace k4 := cell_later hb k4
            replace k5 := cell_later hb k5
            replace k6 := cell_later hb k6
            replace k7 := cell_later hb k7
            have B2 := hide ((unhide B1).trans (hb.mono (unhide B1).size))
            clear hb
            go_wp2_with fail
            refine (unhide C3 _ (unhide B2)).mono ?_
            rintro e V3 ⟨rfl, hb⟩
            replace k0 := cell_later hb k0
            replace k1 := cell_later hb k1
            replace k2 := cell_later hb k2
            replace k3 := cell_later hb k3
            replace k4 := cell_later hb k4
            replace k5 := cell_later hb k5
            replace k6 := cell_later hb k6
            replace k7 := cell_later hb k7
            have B3 := hide ((unhide B2).trans (hb.mono (unhide B2).size))
            clear hb
            go_wp2_with fail
            refine (unhide C4 _ (unhide B3)).mono ?_
            rintro e V4 ⟨rfl, hb⟩
            replace k0 := cell_later hb k0
            replace k1 := cell_later hb k1
            replace k2 := cell_later hb k2
            replace k3 := cell_later hb k3
            replace k4 := cell_later hb k4
            replace k5 := cell_later hb k5
            replace k6 := cell_later hb k6
            replace k7 := cell_later hb k7
            have B4 := hide ((unhide B3).trans (hb.mono (unhide B3).size))
            clear hb
            go_wp2
            go_ret
            exact ⟨by rw [HR]; rfl, unhide B4⟩
          · have i16 : ¬ (16 : Int) < (tn : Int) := by omega
            have HR : R = 0 := by
              rw [unhide HE, if_pos (by rfl), if_pos (by rfl), if_pos (by rfl), if_neg h16]
              all_goals first | rfl | simp
            clear HE
            go_enter Tryz.func16, Tryz.ntmps16
            go_wp2_with fail
            refine (unhide C1 _).mono ?_
            rintro e V1 ⟨rfl, hb⟩
            replace k0 := cell_later hb k0
            replace k1 := cell_later hb k1
            replace k2 := cell_later hb k2
            replace k3 := cell_later hb k3
            replace k4 := cell_later hb k4
            replace k5 := cell_later hb k5
            replace k6 := cell_later hb k6
            replace k7 := cell_later hb k7
            have B1 := hide ((unhide B0).trans (hb.mono (unhide B0).size))
            clear hb
            go_wp2_with fail
            refine (unhide C2 _).mono ?_
            rintro e V2 ⟨rfl, hb⟩
            replace k0 := cell_later hb k0
            replace k1 := cell_later hb k1
            replace k2 := cell_later hb k2
            replace k3 := cell_later hb k3
            replace k4 := cell_later hb k4
            replace k5 := cell_later hb k5
            replace k6 := cell_later hb k6
            replace k7 := cell_later hb k7
            have B2 := hide ((unhide B1).trans (hb.mono (unhide B1).size))
            clear hb
            go_wp2_with fail
            refine (unhide C3 _ (unhide B2)).mono ?_
            rintro e V3 ⟨rfl, hb⟩
            replace k0 := cell_later hb k0
            replace k1 := cell_later hb k1
            replace k2 := cell_later hb k2
            replace k3 := cell_later hb k3
            replace k4 := cell_later hb k4
            replace k5 := cell_later hb k5
            replace k6 := cell_later hb k6
            replace k7 := cell_later hb k7
            have B3 := hide ((unhide B2).trans (hb.mono (unhide B2).size))
            clear hb
            go_wp2_with fail
            refine (unhide C4 _ (unhide B3)).mono ?_
            rintro e V4 ⟨rfl, hb⟩
            replace k0 := cell_later hb k0
            replace k1 := cell_later hb k1
            replace k2 := cell_later hb k2
            replace k3 := cell_later hb k3
            replace k4 := cell_later hb k4
            replace k5 := cell_later hb k5
            replace k6 := cell_later hb k6
            replace k7 := cell_later hb k7
            have B4 := hide ((unhide B3).trans (hb.mono (unhide B3).size))
            clear hb
            go_wp2
            go_ret
            exact ⟨by rw [HR]; rfl, unhide B4⟩
end Go.Proofs.YtjcjleaicjhpeaaGreatDoor
end
