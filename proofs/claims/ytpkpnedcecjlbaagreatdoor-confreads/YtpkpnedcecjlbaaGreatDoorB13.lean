/- Conf: Check. -/
import Derived.Test.YtpkpnedcecjlbaaGreatDoorB12
import Derived.Test.YtpkpnedcecjlbaaGreatDoorB08
import Derived.Deep.RegionHeld3
section
namespace Go.Proofs.YtpkpnedcecjlbaaGreatDoor
open Go.ChangeShapes Go.WideShapes Go.ChangeAt Go.RowKit
set_option linter.unusedVariables false

/-- A command's value, and where its targets lie. -/
def cmdVal (c : Cmd) (a : Option Addr) (tc : Nat) : Value := .agg #[.int .i64 c.act, .int .i64 c.cli, .int .i64 c.seq, .int .i64 c.exp, .string c.host, .string c.pre, .string c.pool, .slice a c.ts.length tc]
def cmdRow (c : Cmd) (a : Option Addr) (tc : Nat) : Array Value := #[.int .i64 c.act, .int .i64 c.cli, .int .i64 c.seq, .int .i64 c.exp, .string c.host, .string c.pre, .string c.pool, .slice a c.ts.length tc]
structure CmdAt (w : World) (c : Cmd) (a : Option Addr) (tc : Nat) : Prop where
  tgs : TgsAt w a c.ts
  tz : ∀ t ∈ c.ts, t.1.size ≤ 140737488355328
  th : c.host.size ≤ 140737488355328
  tp : c.pre.size ≤ 140737488355328
  tl : c.pool.size ≤ 140737488355328
  tn : c.ts.length ≤ maxLen ∧ c.ts.length ≤ tc
  tnil : a = none → tc = 0
  ia : -9223372036854775808 ≤ c.act ∧ c.act ≤ 9223372036854775807
  ic : -9223372036854775808 ≤ c.cli ∧ c.cli ≤ 9223372036854775807
  is : -9223372036854775808 ≤ c.seq ∧ c.seq ≤ 9223372036854775807
  ie : -9223372036854775808 ≤ c.exp ∧ c.exp ≤ 9223372036854775807
theorem CmdAt.later {w w' : World} {c : Cmd} {a : Option Addr} {tc : Nat} (h : CmdAt w c a tc) (hb : Below w.heap.size w w') : CmdAt w' c a tc :=
  ⟨h.tgs.later hb, h.tz, h.th, h.tp, h.tl, h.tn, h.tnil, h.ia, h.ic, h.is, h.ie⟩
def cmdBox (c : Cmd) (a : Option Addr) (tc : Nat) : Obj := .cells (cmdRow c a tc) 25
set_option maxRecDepth 20000 in
set_option maxHeartbeats 8000000 in
theorem numbersMayBe_calls (c : Cmd) (a : Option Addr) (tc : Nat) (w : World) : Calls Tryz.prog 31 #[cmdVal c a tc] w fun e w' => e = .returned (.bool (numsOk c)) ∧ Below w.heap.size w w' := by
  have HE := hide (show numsOk c = (decide (1 ≤ c.act ∧ c.act ≤ 4) && decide (0 ≤ c.cli ∧ c.cli ≤ 32) && (if c.cli = 0 then decide (c.seq = 0) else decide (1 ≤ c.seq ∧ c.seq ≤ 1099511627776)) && decide (-1 ≤ c.exp ∧ c.exp ≤ 1099511627775)) from rfl)
  unfold cmdVal
  obtain ⟨act, cli, seq, exp, host, pre, pool, ts⟩ := c
  simp only at *
  generalize numsOk ⟨act, cli, seq, exp, host, pre, pool, ts⟩ = R at *
  generalize ts.length = tn
  have X1 := hide (heap_new w (.cells #[.int .i64 act, .int .i64 cli, .int .i64 seq, .int .i64 exp, .string host, .string pre, .string pool, .slice a tn tc] 25))
  have k0 := box_cell (unhide X1) 0 _ rfl
  have k1 := box_cell (unhide X1) 1 _ rfl
  have k2 := box_cell (unhide X1) 2 _ rfl
  have k3 := box_cell (unhide X1) 3 _ rfl
  have B0 := hide (show Below w.heap.size w (w.alloc (.cells #[.int .i64 act, .int .i64 cli, .int .i64 seq, .int .i64 exp, .string host, .string pre, .string pool, .slice a tn tc] 25)) from (Below.refl _ _).alloc (Nat.le_refl _) _)
  clear X1
  by_cases hc : cli = 0
  · subst hc
    have HR0 := hide (show R = (decide (1 ≤ act ∧ act ≤ 4) && decide (0 ≤ (0 : Int) ∧ (0 : Int) ≤ 32) && decide (0 ≤ seq ∧ seq ≤ 0) && decide (-1 ≤ exp ∧ exp ≤ 1099511627775)) by rw [unhide HE, if_pos rfl]; congr 2; rw [Bool.eq_iff_iff, decide_eq_true_eq, decide_eq_true_eq]; omega)
    have C1 := hide (fun w => cwithin_calls act 1 4 w)
    have C2 := hide (fun w => cwithin_calls 0 0 32 w)
    have C3 := hide (fun w => cwithin_calls seq 0 0 w)
    have C4 := hide (fun w => cwithin_calls exp (-1) 1099511627775 w)
    clear HE
    generalize decide (1 ≤ act ∧ act ≤ 4) = b1 at *
    generalize decide ((0 : Int) ≤ 0 ∧ (0 : Int) ≤ 32) = b2 at *
    generalize decide (0 ≤ seq ∧ seq ≤ 0) = b3 at *
    generalize decide (-1 ≤ exp ∧ exp ≤ 1099511627775) = b4 at *
    cases b1
    · have HR : R = false := by rw [unhide HR0]; rfl
      go_enter Tryz.func31, Tryz.ntmps31
      go_wp2_with fail
      refine (unhide C1 _).mono ?_
      rintro e V1 ⟨rfl, rfl⟩
      go_wp2
      go_ret
      exact ⟨by rw [HR]; rfl, unhide B0⟩
    · skip
      cases b2
      · have HR : R = false := by rw [unhide HR0]; simp
        go_enter Tryz.func31, Tryz.ntmps31
        go_wp2_with fail
        refine (unhide C1 _).mono ?_
        rintro e V1 ⟨rfl, rfl⟩
        go_wp2_with fail
        refine (unhide C2 _).mono ?_
        rintro e V2 ⟨rfl, rfl⟩
        go_wp2
        go_ret
        exact ⟨by rw [HR]; rfl, unhide B0⟩
      · skip
        cases b3
        · have HR : R = false := by rw [unhide HR0]; simp
          go_enter Tryz.func31, Tryz.ntmps31
          go_wp2_with fail
          refine (unhide C1 _).mono ?_
          rintro e V1 ⟨rfl, rfl⟩
          go_wp2_with fail
          refine (unhide C2 _).mono ?_
          rintro e V2 ⟨rfl, rfl⟩
          go_wp2_with fail
          refine (unhide C3 _).mono ?_
          rintro e V3 ⟨rfl, rfl⟩
          go_wp2
          go_ret
          exact ⟨by rw [HR]; rfl, unhide B0⟩
        · skip
          have HR : R = b4 := by rw [unhide HR0]; rfl
          go_enter Tryz.func31, Tryz.ntmps31
          go_wp2_with fail
          refine (unhide C1 _).mono ?_
          rintro e V1 ⟨rfl, rfl⟩
          go_wp2_with fail
          refine (unhide C2 _).mono ?_
          rintro e V2 ⟨rfl, rfl⟩
          go_wp2_with fail
          refine (unhide C3 _).mono ?_
          rintro e V3 ⟨rfl, rfl⟩
          go_wp2_with fail
          refine (unhide C4 _).mono ?_
          rintro e V4 ⟨rfl, rfl⟩
          go_wp2
          go_ret
          exact ⟨by rw [HR]; rfl, unhide B0⟩
  · have hci : (cli == 0) = false := by simpa using hc
    have HR0 := hide (show R = (decide (1 ≤ act ∧ act ≤ 4) && decide (0 ≤ cli ∧ cli ≤ 32) && decide (1 ≤ seq ∧ seq ≤ 1099511627776) && decide (-1 ≤ exp ∧ exp ≤ 1099511627775)) by rw [unhide HE, if_neg hc])
    have C1 := hide (fun w => cwithin_calls act 1 4 w)
    have C2 := hide (fun w => cwithin_calls cli 0 32 w)
    have C3 := hide (fun w => cwithin_calls seq 1 1099511627776 w)
    have C4 := hide (fun w => cwithin_calls exp (-1) 1099511627775 w)
    clear HE
    generalize decide (1 ≤ act ∧ act ≤ 4) = b1 at *
    generalize decide (0 ≤ cli ∧ cli ≤ 32) = b2 at *
    generalize decide (1 ≤ seq ∧ seq ≤ 1099511627776) = b3 at *
    generalize decide (-1 ≤ exp ∧ exp ≤ 1099511627775) = b4 at *
    cases b1
    · have HR : R = false := by rw [unhide HR0]; rfl
      go_enter Tryz.func31, Tryz.ntmps31
      go_wp2_with fail
      refine (unhide C1 _).mono ?_
      rintro e V1 ⟨rfl, rfl⟩
      go_wp2
      go_ret
      exact ⟨by rw [HR]; rfl, unhide B0⟩
    · skip
      cases b2
      · have HR : R = false := by rw [unhide HR0]; simp
        go_enter Tryz.func31, Tryz.ntmps31
        go_wp2_with fail
        refine (unhide C1 _).mono ?_
        rintro e V1 ⟨rfl, rfl⟩
        go_wp2_with fail
        refine (unhide C2 _).mono ?_
        rintro e V2 ⟨rfl, rfl⟩
        go_wp2
        go_ret
        exact ⟨by rw [HR]; rfl, unhide B0⟩
      · skip
        cases b3
        · have HR : R = false := by rw [unhide HR0]; simp
          go_enter Tryz.func31, Tryz.ntmps31
          go_wp2_with fail
          refine (unhide C1 _).mono ?_
          rintro e V1 ⟨rfl, rfl⟩
          go_wp2_with fail
          refine (unhide C2 _).mono ?_
          rintro e V2 ⟨rfl, rfl⟩
          go_wp2_with fail
          refine (unhide C3 _).mono ?_
          rintro e V3 ⟨rfl, rfl⟩
          go_wp2
          go_ret
          exact ⟨by rw [HR]; rfl, unhide B0⟩
        · skip
          have HR : R = b4 := by rw [unhide HR0]; rfl
          go_enter Tryz.func31, Tryz.ntmps31
          go_wp2_with fail
          refine (unhide C1 _).mono ?_
          rintro e V1 ⟨rfl, rfl⟩
          go_wp2_with fail
          refine (unhide C2 _).mono ?_
          rintro e V2 ⟨rfl, rfl⟩
          go_wp2_with fail
          refine (unhide C3 _).mono ?_
          rintro e V3 ⟨rfl, rfl⟩
          go_wp2_with fail
          refine (unhide C4 _).mono ?_
          rintro e V4 ⟨rfl, rfl⟩
          go_wp2
          go_ret
          exact ⟨by rw [HR]; rfl, unhide B0⟩
end Go.Proofs.YtpkpnedcecjlbaaGreatDoor
end
/- Conf: what an act does not use is empty. -/
section
namespace Go.Proofs.YtpkpnedcecjlbaaGreatDoor
open Go.ChangeShapes Go.WideShapes Go.ChangeAt Go.RowKit
set_option linter.unusedVariables false

def emp (s : ByteArray) : Bool := decide (s.size = 0)
theorem emp_eq (s : ByteArray) : (s.toList == []) = emp s := by
  rw [ByteArray.toList_eq, Bool.eq_iff_iff, beq_iff_eq]
  unfold emp
  rw [decide_eq_true_eq, size0]
theorem nil_toList : (⟨#[]⟩ : ByteArray).toList = [] := by rw [ByteArray.toList_eq]
set_option maxRecDepth 20000 in
set_option maxHeartbeats 8000000 in
theorem unusedIsEmpty_calls (c : Cmd) (a : Option Addr) (tc : Nat) (w : World) (hn : c.ts.length ≤ maxLen) (z1 : c.host.size ≤ 140737488355328) (z2 : c.pre.size ≤ 140737488355328) (z3 : c.pool.size ≤ 140737488355328) : Calls Tryz.prog 32 #[cmdVal c a tc] w fun e w' => e = .returned (.bool (unusedOk c)) ∧ Below w.heap.size w w' := by
  have HE := hide (show unusedOk c = ((isRoute c.act || (emp c.host && emp c.pre)) && (!decide (c.act = 4) || emp c.pool) && (decide (c.act = 1) || decide (c.ts.length = 0))) from rfl)
  unfold cmdVal
  obtain ⟨act, cli, seq, exp, host, pre, pool, ts⟩ := c
  simp only [maxLen] at *
  generalize unusedOk ⟨act, cli, seq, exp, host, pre, pool, ts⟩ = R at *
  generalize ts.length = tn at *
  have X1 := hide (heap_new w (.cells #[.int .i64 act, .int .i64 cli, .int .i64 seq, .int .i64 exp, .string host, .string pre, .string pool, .slice a tn tc] 25))
  have k0 := box_cell (unhide X1) 0 _ rfl
  have k4 := box_cell (unhide X1) 4 _ rfl
  have k5 := box_cell (unhide X1) 5 _ rfl
  have k6 := box_cell (unhide X1) 6 _ rfl
  have k7 := box_cell (unhide X1) 7 _ rfl
  have B0 := hide (show Below w.heap.size w (w.alloc (.cells #[.int .i64 act, .int .i64 cli, .int .i64 seq, .int .i64 exp, .string host, .string pre, .string pool, .slice a tn tc] 25)) from (Below.refl _ _).alloc (Nat.le_refl _) _)
  have BN := hide (show ∀ k, Below w.heap.size w ((w.alloc (.cells #[.int .i64 act, .int .i64 cli, .int .i64 seq, .int .i64 exp, .string host, .string pre, .string pool, .slice a tn tc] 25)).drewN k) from fun k => ⟨(unhide B0).os, (unhide B0).tape, (unhide B0).output, (unhide B0).size, (unhide B0).block⟩)
  have RC := hide (ofRoute_calls act)
  have e4 := emp_eq host
  have e5 := emp_eq pre
  have e6 := emp_eq pool
  have nl := nil_toList
  clear X1
  generalize emp host = x4 at *
  generalize emp pre = x5 at *
  generalize emp pool = x6 at *
  generalize isRoute act = x1 at *
  cases x1
  · cases x4
    · skip
      have HR : R = false := by
        rw [unhide HE]
        first | rfl | simp
      clear HE
      go_enter Tryz.func32, Tryz.ntmps32
      go_wp2_with fail
      refine (unhide RC _).mono ?_
      rintro e V1 ⟨rfl, rfl⟩
      go_wp2
      go_ret
      exact ⟨by rw [HR]; rfl, by first | exact unhide B0 | exact unhide BN _⟩
    · cases x5
      · skip
        have HR : R = false := by
          rw [unhide HE]
          first | rfl | simp
        clear HE
        go_enter Tryz.func32, Tryz.ntmps32
        go_wp2_with fail
        refine (unhide RC _).mono ?_
        rintro e V1 ⟨rfl, rfl⟩
        go_wp2
        go_ret
        exact ⟨by rw [HR]; rfl, by first | exact unhide B0 | exact unhide BN _⟩
      · skip
        by_cases h4 : act = 4
        · subst h4
          cases x6
          · skip
            have HR : R = false := by
              rw [unhide HE]
              first | rfl | simp
            clear HE
            go_enter Tryz.func32, Tryz.ntmps32
            go_wp2_with fail
            refine (unhide RC _).mono ?_
            rintro e V1 ⟨rfl, rfl⟩
            go_wp2
            go_ret
            exact ⟨by rw [HR]; rfl, by first | exact unhide B0 | exact unhide BN _⟩
          · skip
            by_cases h0 : tn = 0
            · subst h0
              have HR : R = true := by
                rw [unhide HE]
                first | rfl | simp
              clear HE
              go_enter Tryz.func32, Tryz.ntmps32
              go_wp2_with fail
              refine (unhide RC _).mono ?_
              rintro e V1 ⟨rfl, rfl⟩
              go_wp2
              go_ret
              exact ⟨by rw [HR]; rfl, by first | exact unhide B0 | exact unhide BN _⟩
            · have i0 : ((tn : Int) == 0) = false := by simpa using h0
              have d0 : decide (tn = 0) = false := decide_eq_false h0
              have HR : R = false := by
                rw [unhide HE, d0]
                first | rfl | simp
              clear HE
              go_enter Tryz.func32, Tryz.ntmps32
              go_wp2_with fail
              refine (unhide RC _).mono ?_
              rintro e V1 ⟨rfl, rfl⟩
              go_wp2
              go_ret
              exact ⟨by rw [HR]; rfl, by first | exact unhide B0 | exact unhide BN _⟩
        · have i4 : (act == 4) = false := by simpa using h4
          have j4 : (act != 4) = true := by simpa using h4
          have d4 : decide (act = 4) = false := decide_eq_false h4
          by_cases h1 : act = 1
          · subst h1
            have HR : R = true := by
              rw [unhide HE]
              first | rfl | simp
            clear HE
            go_enter Tryz.func32, Tryz.ntmps32
            go_wp2_with fail
            refine (unhide RC _).mono ?_
            rintro e V1 ⟨rfl, rfl⟩
            go_wp2
            go_ret
            exact ⟨by rw [HR]; rfl, by first | exact unhide B0 | exact unhide BN _⟩
          · have i1 : (act == 1) = false := by simpa using h1
            have d1 : decide (act = 1) = false := decide_eq_false h1
            by_cases h0 : tn = 0
            · subst h0
              have HR : R = true := by
                rw [unhide HE, d4, d1]
                first | rfl | simp
              clear HE
              go_enter Tryz.func32, Tryz.ntmps32
              go_wp2_with fail
              refine (unhide RC _).mono ?_
              rintro e V1 ⟨rfl, rfl⟩
              go_wp2
              go_ret
              exact ⟨by rw [HR]; rfl, by first | exact unhide B0 | exact unhide BN _⟩
            · have i0 : ((tn : Int) == 0) = false := by simpa using h0
              have d0 : decide (tn = 0) = false := decide_eq_false h0
              have HR : R = false := by
                rw [unhide HE, d4, d1, d0]
                first | rfl | simp
              clear HE
              go_enter Tryz.func32, Tryz.ntmps32
              go_wp2_with fail
              refine (unhide RC _).mono ?_
              rintro e V1 ⟨rfl, rfl⟩
              go_wp2
              go_ret
              exact ⟨by rw [HR]; rfl, by first | exact unhide B0 | exact unhide BN _⟩
  · skip
    by_cases h4 : act = 4
    · subst h4
      cases x6
      · skip
        have HR : R = false := by
          rw [unhide HE]
          first | rfl | simp
        clear HE
        go_enter Tryz.func32, Tryz.ntmps32
        go_wp2_with fail
        refine (unhide RC _).mono ?_
        rintro e V1 ⟨rfl, rfl⟩
        go_wp2
        go_ret
        exact ⟨by rw [HR]; rfl, by first | exact unhide B0 | exact unhide BN _⟩
      · skip
        by_cases h0 : tn = 0
        · subst h0
          have HR : R = true := by
            rw [unhide HE]
            first | rfl | simp
          clear HE
          go_enter Tryz.func32, Tryz.ntmps32
          go_wp2_with fail
          refine (unhide RC _).mono ?_
          rintro e V1 ⟨rfl, rfl⟩
          go_wp2
          go_ret
          exact ⟨by rw [HR]; rfl, by first | exact unhide B0 | exact unhide BN _⟩
        · have i0 : ((tn : Int) == 0) = false := by simpa using h0
          have d0 : decide (tn = 0) = false := decide_eq_false h0
          have HR : R = false := by
            rw [unhide HE, d0]
            first | rfl | simp
          clear HE
          go_enter Tryz.func32, Tryz.ntmps32
          go_wp2_with fail
          refine (unhide RC _).mono ?_
          rintro e V1 ⟨rfl, rfl⟩
          go_wp2
          go_ret
          exact ⟨by rw [HR]; rfl, by first | exact unhide B0 | exact unhide BN _⟩
    · have i4 : (act == 4) = false := by simpa using h4
      have j4 : (act != 4) = true := by simpa using h4
      have d4 : decide (act = 4) = false := decide_eq_false h4
      by_cases h1 : act = 1
      · subst h1
        have HR : R = true := by
          rw [unhide HE]
          first | rfl | simp
        clear HE
        go_enter Tryz.func32, Tryz.ntmps32
        go_wp2_with fail
        refine (unhide RC _).mono ?_
        rintro e V1 ⟨rfl, rfl⟩
        go_wp2
        go_ret
        exact ⟨by rw [HR]; rfl, by first | exact unhide B0 | exact unhide BN _⟩
      · have i1 : (act == 1) = false := by simpa using h1
        have d1 : decide (act = 1) = false := decide_eq_false h1
        by_cases h0 : tn = 0
        · subst h0
          have HR : R = true := by
            rw [unhide HE, d4, d1]
            first | rfl | simp
          clear HE
          go_enter Tryz.func32, Tryz.ntmps32
          go_wp2_with fail
          refine (unhide RC _).mono ?_
          rintro e V1 ⟨rfl, rfl⟩
          go_wp2
          go_ret
          exact ⟨by rw [HR]; rfl, by first | exact unhide B0 | exact unhide BN _⟩
        · have i0 : ((tn : Int) == 0) = false := by simpa using h0
          have d0 : decide (tn = 0) = false := decide_eq_false h0
          have HR : R = false := by
            rw [unhide HE, d4, d1, d0]
            first | rfl | simp
          clear HE
          go_enter Tryz.func32, Tryz.ntmps32
          go_wp2_with fail
          refine (unhide RC _).mono ?_
          rintro e V1 ⟨rfl, rfl⟩
          go_wp2
          go_ret
          exact ⟨by rw [HR]; rfl, by first | exact unhide B0 | exact unhide BN _⟩

end Go.Proofs.YtpkpnedcecjlbaaGreatDoor
end
