/- Conf: the document's rightTargets. -/
import Derived.Test.YtpkpnedcecjlbaaGreatDoorB39
import Derived.Test.YtpkpnedcecjlbaaGreatDoorB12
import Derived.Test.YtpkpnedcecjlbaaGreatDoorB13
import Derived.Test.YtpkpnedcecjlbaaGreatDoorB30
section
namespace Go.Proofs.YtpkpnedcecjlbaaGreatDoor
open Go.ChangeShapes Go.WideShapes Go.ChangeAt Go.RowKit
set_option linter.unusedVariables false

def adOk (l : List Tgt) : Bool := l.all (fun t => addrT t.1)
def rtN (ts : List Tgt) : Nat := if adOk ts then (if wtsOk ts then (if 16 < ts.length then 6 else 0) else 15) else 14
def r1N (e0 : Nat) (ts : List Tgt) : Nat := if wtsOk ts then e0 else 15
def r2N (e1 : Nat) (ts : List Tgt) : Nat := if adOk ts then e1 else 14
theorem take_all {α : Type} (f : α → Bool) (l : List α) (j : Nat) (h : j < l.length) : (l.take (j + 1)).all f = ((l.take j).all f && f l[j]) := by
  rw [List.take_succ_eq_append_getElem h, List.all_append, List.all_cons, List.all_nil, Bool.and_true]
theorem r1N_step (e0 : Nat) (ts : List Tgt) (j : Nat) (h : j < ts.length) : r1N e0 (ts.take (j + 1)) = if wtB ts[j].2 then r1N e0 (ts.take j) else 15 := by
  unfold r1N wtsOk
  rw [take_all _ ts j h]
  generalize wtB ts[j].2 = b
  cases b
  · rw [Bool.and_false]; rfl
  · rw [Bool.and_true]; rfl
theorem r2N_step (e1 : Nat) (ts : List Tgt) (j : Nat) (h : j < ts.length) : r2N e1 (ts.take (j + 1)) = if addrT ts[j].1 then r2N e1 (ts.take j) else 14 := by
  unfold r2N adOk
  rw [take_all _ ts j h]
  generalize addrT ts[j].1 = b
  cases b
  · rw [Bool.and_false]; rfl
  · rw [Bool.and_true]; rfl
set_option maxRecDepth 20000 in
set_option maxHeartbeats 8000000 in
theorem rightR_calls {w : World} {a : Option Addr} {ts : List Tgt} (hT : TgsAt w a ts) (n c : Nat) (hn : ts.length = n) (hx : n ≤ maxLen) (hz : ∀ t ∈ ts, t.1.size ≤ 140737488355328) :
    Calls Tryz.prog 38 #[.slice a n c] w fun e w' => e = .returned (.int .i64 (rtN ts : Int)) ∧ w' = w := by
  have HT := hide hT
  have HZ := hide hz
  have hsF := run_storeF .plain
  simp only [maxLen] at hx
  have HR := hide (show rtN ts = r2N (r1N (if 16 < n then 6 else 0) ts) ts by rw [← hn]; rfl)
  have HN := hide hn
  clear hT hn hz
  by_cases h16 : 16 < n
  · have i16 : (16 : Int) < (n : Int) := by omega
    rw [if_pos h16] at HR
    go_enter Tryz.func38, Tryz.ntmps38
    go_wp2_with fail
    go_loopw [3, 4] (fun e i wr => ∃ (j m : Nat), j ≤ n ∧ e = .int .i64 (m : Int) ∧ i = .int .i64 (j : Int) ∧ Hid (m = r1N 6 (ts.take j)) ∧ Hid (wr = w)) (fun _ i _ => n - (intOf i).toNat)
    case atStart => exact ⟨0, 6, by omega, rfl, rfl, hide (by simp [r1N, wtsOk]), hide rfl⟩
    case round =>
      obtain ⟨j, m, hj, rfl, rfl, hm, hB⟩ := hrel
      by_cases hjn : j < n
      · as_aux_lemma =>
        have y0 : (0 : Int) ≤ (j : Int) := by omega
        have y1 : (j : Int) < (n : Int) := by omega
        have hj1 : j + 1 ≤ n := by omega
        have hjl : j < ts.length := by rw [unhide HN]; exact hjn
        obtain ⟨b, off, rfl, q0, q1⟩ := (unhide HT).cell j hjl
        have ST := hide (r1N_step 6 ts j hjl)
        generalize ts[j] = t at *
        obtain ⟨s, x⟩ := t
        dsimp only at *
        have p1 : wr.cell? ⟨b, off + j * 2 + 1, none⟩ = some (.float .f64 x) := by rw [unhide hB]; exact q1
        have WC := hide (weightR8_calls x wr)
        clear q0 q1
        cases hw : wtB x with
        | true =>
          rw [hw] at WC ST
          have HM := hide (show m = r1N 6 (ts.take (j + 1)) by rw [unhide ST, if_pos rfl]; exact unhide hm)
          clear hw ST hm
          go_wp2_with fail
          refine (unhide WC).mono ?_
          rintro e w' ⟨rfl, rfl⟩
          go_wp2
          exact ⟨⟨j + 1, m, hj1, rfl, by go_num, HM, hB⟩, by simp [intOf]; omega⟩
        | false =>
          rw [hw] at WC ST
          have HM := hide (show 15 = r1N 6 (ts.take (j + 1)) by rw [unhide ST]; rfl)
          clear hw ST hm
          go_wp2_with fail
          refine (unhide WC).mono ?_
          rintro e w' ⟨rfl, rfl⟩
          go_wp2
          exact ⟨⟨j + 1, 15, hj1, rfl, by go_num, HM, hB⟩, by simp [intOf]; omega⟩
      · as_aux_lemma =>
        have y1 : ¬ (j : Int) < (n : Int) := by omega
        have hm2 := hide (show m = r1N 6 ts by rw [unhide hm, List.take_of_length_le (by rw [unhide HN]; omega)])
        rw [← unhide hm2] at HR
        have hwr := unhide hB
        subst hwr
        clear hm hB
        go_wp2_with fail
        go_loopw [3, 5] (fun e i wq => ∃ (k m2 : Nat), k ≤ n ∧ e = .int .i64 (m2 : Int) ∧ i = .int .i64 (k : Int) ∧ Hid (m2 = r2N m (ts.take k)) ∧ Hid (wq = wr)) (fun _ i _ => n - (intOf i).toNat)
        case atStart => exact ⟨0, m, by omega, rfl, rfl, hide (by simp [r2N, adOk]), hide rfl⟩
        case round =>
          rename_i w0
          obtain ⟨k, m2, hk, rfl, rfl, hm3, hB2⟩ := hrel
          by_cases hkn : k < n
          · have y2 : (0 : Int) ≤ (k : Int) := by omega
            have y3 : (k : Int) < (n : Int) := by omega
            have hk1 : k + 1 ≤ n := by omega
            have hkl : k < ts.length := by rw [unhide HN]; exact hkn
            obtain ⟨b, off, rfl, q0, q1⟩ := (unhide HT).cell k hkl
            have ST := hide (r2N_step m ts k hkl)
            have hs := unhide HZ _ (List.getElem_mem hkl)
            generalize ts[k] = t at *
            obtain ⟨s, x⟩ := t
            dsimp only at *
            have hwq := unhide hB2
            subst hwq
            have AC := hide (addrR_calls s (by simp only [maxLen]; omega) wr)
            clear q1 hB2
            cases hw : addrT s with
            | true =>
              rw [hw] at AC ST
              have HM := hide (show m2 = r2N m (ts.take (k + 1)) by rw [unhide ST, if_pos rfl]; exact unhide hm3)
              clear hw ST hm3
              go_wp2_with fail
              refine (unhide AC).mono ?_
              rintro e w' ⟨rfl, rfl⟩
              go_wp2
              exact ⟨⟨k + 1, m2, hk1, rfl, by go_num, HM, by first | exact hide rfl | trivial⟩, by simp [intOf]; omega⟩
            | false =>
              rw [hw] at AC ST
              have HM := hide (show 14 = r2N m (ts.take (k + 1)) by rw [unhide ST]; rfl)
              clear hw ST hm3
              go_wp2_with fail
              refine (unhide AC).mono ?_
              rintro e w' ⟨rfl, rfl⟩
              go_wp2
              exact ⟨⟨k + 1, 14, hk1, rfl, by go_num, HM, by first | exact hide rfl | trivial⟩, by simp [intOf]; omega⟩
          · have y3 : ¬ (k : Int) < (n : Int) := by omega
            have HM := hide (show rtN ts = m2 by rw [unhide HR, unhide hm3, List.take_of_length_le (by rw [unhide HN]; omega)])
            clear hm3 hm2
            go_wp2
            go_ret
            exact ⟨by rw [unhide HM]; rfl, unhide hB2⟩
  · have i16 : ¬ (16 : Int) < (n : Int) := by omega
    rw [if_neg h16] at HR
    go_enter Tryz.func38, Tryz.ntmps38
    go_wp2_with fail
    go_loopw [3, 4] (fun e i wr => ∃ (j m : Nat), j ≤ n ∧ e = .int .i64 (m : Int) ∧ i = .int .i64 (j : Int) ∧ Hid (m = r1N 0 (ts.take j)) ∧ Hid (wr = w)) (fun _ i _ => n - (intOf i).toNat)
    case atStart => exact ⟨0, 0, by omega, rfl, rfl, hide (by simp [r1N, wtsOk]), hide rfl⟩
    case round =>
      obtain ⟨j, m, hj, rfl, rfl, hm, hB⟩ := hrel
      by_cases hjn : j < n
      · as_aux_lemma =>
        have y0 : (0 : Int) ≤ (j : Int) := by omega
        have y1 : (j : Int) < (n : Int) := by omega
        have hj1 : j + 1 ≤ n := by omega
        have hjl : j < ts.length := by rw [unhide HN]; exact hjn
        obtain ⟨b, off, rfl, q0, q1⟩ := (unhide HT).cell j hjl
        have ST := hide (r1N_step 0 ts j hjl)
        generalize ts[j] = t at *
        obtain ⟨s, x⟩ := t
        dsimp only at *
        have p1 : wr.cell? ⟨b, off + j * 2 + 1, none⟩ = some (.float .f64 x) := by rw [unhide hB]; exact q1
        have WC := hide (weightR8_calls x wr)
        clear q0 q1
        cases hw : wtB x with
        | true =>
          rw [hw] at WC ST
          have HM := hide (show m = r1N 0 (ts.take (j + 1)) by rw [unhide ST, if_pos rfl]; exact unhide hm)
          clear hw ST hm
          go_wp2_with fail
          refine (unhide WC).mono ?_
          rintro e w' ⟨rfl, rfl⟩
          go_wp2
          exact ⟨⟨j + 1, m, hj1, rfl, by go_num, HM, hB⟩, by simp [intOf]; omega⟩
        | false =>
          rw [hw] at WC ST
          have HM := hide (show 15 = r1N 0 (ts.take (j + 1)) by rw [unhide ST]; rfl)
          clear hw ST hm
          go_wp2_with fail
          refine (unhide WC).mono ?_
          rintro e w' ⟨rfl, rfl⟩
          go_wp2
          exact ⟨⟨j + 1, 15, hj1, rfl, by go_num, HM, hB⟩, by simp [intOf]; omega⟩
      · as_aux_lemma =>
        have y1 : ¬ (j : Int) < (n : Int) := by omega
        have hm2 := hide (show m = r1N 0 ts by rw [unhide hm, List.take_of_length_le (by rw [unhide HN]; omega)])
        rw [← unhide hm2] at HR
        have hwr := unhide hB
        subst hwr
        clear hm hB
        go_wp2_with fail
        go_loopw [3, 5] (fun e i wq => ∃ (k m2 : Nat), k ≤ n ∧ e = .int .i64 (m2 : Int) ∧ i = .int .i64 (k : Int) ∧ Hid (m2 = r2N m (ts.take k)) ∧ Hid (wq = wr)) (fun _ i _ => n - (intOf i).toNat)
        case atStart => exact ⟨0, m, by omega, rfl, rfl, hide (by simp [r2N, adOk]), hide rfl⟩
        case round =>
          rename_i w0
          obtain ⟨k, m2, hk, rfl, rfl, hm3, hB2⟩ := hrel
          by_cases hkn : k < n
          · have y2 : (0 : Int) ≤ (k : Int) := by omega
            have y3 : (k : Int) < (n : Int) := by omega
            have hk1 : k + 1 ≤ n := by omega
            have hkl : k < ts.length := by rw [unhide HN]; exact hkn
            obtain ⟨b, off, rfl, q0, q1⟩ := (unhide HT).cell k hkl
            have ST := hide (r2N_step m ts k hkl)
            have hs := unhide HZ _ (List.getElem_mem hkl)
            generalize ts[k] = t at *
            obtain ⟨s, x⟩ := t
            dsimp only at *
            have hwq := unhide hB2
            subst hwq
            have AC := hide (addrR_calls s (by simp only [maxLen]; omega) wr)
            clear q1 hB2
            cases hw : addrT s with
            | true =>
              rw [hw] at AC ST
              have HM := hide (show m2 = r2N m (ts.take (k + 1)) by rw [unhide ST, if_pos rfl]; exact unhide hm3)
              clear hw ST hm3
              go_wp2_with fail
              refine (unhide AC).mono ?_
              rintro e w' ⟨rfl, rfl⟩
              go_wp2
              exact ⟨⟨k + 1, m2, hk1, rfl, by go_num, HM, by first | exact hide rfl | trivial⟩, by simp [intOf]; omega⟩
            | false =>
              rw [hw] at AC ST
              have HM := hide (show 14 = r2N m (ts.take (k + 1)) by rw [unhide ST]; rfl)
              clear hw ST hm3
              go_wp2_with fail
              refine (unhide AC).mono ?_
              rintro e w' ⟨rfl, rfl⟩
              go_wp2
              exact ⟨⟨k + 1, 14, hk1, rfl, by go_num, HM, by first | exact hide rfl | trivial⟩, by simp [intOf]; omega⟩
          · have y3 : ¬ (k : Int) < (n : Int) := by omega
            have HM := hide (show rtN ts = m2 by rw [unhide HR, unhide hm3, List.take_of_length_le (by rw [unhide HN]; omega)])
            clear hm3 hm2
            go_wp2
            go_ret
            exact ⟨by rw [unhide HM]; rfl, unhide hB2⟩
end Go.Proofs.YtpkpnedcecjlbaaGreatDoor
end
/- Conf: the document's Check, plainly. -/
section
namespace Go.Proofs.YtpkpnedcecjlbaaGreatDoor
open Go.ChangeShapes Go.WideShapes Go.ChangeAt Go.RowKit
set_option linter.unusedVariables false

theorem chk_no {c : Cmd} (h : numsOk c = false) : checkC c = 2 := by
  unfold checkC
  rw [h]
  rfl
theorem chk_go {c : Cmd} (u m : Bool) (h : numsOk c = true) (hu : unusedOk c = u) (hm : namesOk c = (m && adOk c.ts)) : checkC c = if u then (if m then rtN c.ts else 14) else 2 := by
  unfold checkC rtN
  rw [h, hu, hm]
  cases u <;> cases m <;> cases adOk c.ts <;> simp
theorem chk1 {c : Cmd} (h : numsOk c = true) (ha : c.act = 1) : checkC c = if emp c.host && emp c.pre then (if nameT c.pool then rtN c.ts else 14) else 2 := by
  refine chk_go _ _ h ?_ ?_
  · unfold unusedOk isRoute emp; rw [ha]; simp
  · unfold namesOk isRoute adOk; rw [ha]; simp
theorem chk2 {c : Cmd} (h : numsOk c = true) (ha : c.act = 2) : checkC c = if emp c.host && emp c.pre && decide (c.ts.length = 0) then (if nameT c.pool then rtN c.ts else 14) else 2 := by
  refine chk_go _ _ h ?_ ?_
  · unfold unusedOk isRoute emp; rw [ha]; simp
  · unfold namesOk isRoute adOk; rw [ha]; simp
theorem chk3 {c : Cmd} (h : numsOk c = true) (ha : c.act = 3) : checkC c = if decide (c.ts.length = 0) then (if nameT c.pool && (hostT c.host && prefT c.pre) then rtN c.ts else 14) else 2 := by
  refine chk_go _ _ h ?_ ?_
  · unfold unusedOk isRoute; rw [ha]; simp
  · unfold namesOk isRoute adOk; rw [ha]; cases nameT c.pool <;> simp
theorem chk4 {c : Cmd} (h : numsOk c = true) (ha : c.act = 4) : checkC c = if emp c.pool && decide (c.ts.length = 0) then (if hostT c.host && prefT c.pre then rtN c.ts else 14) else 2 := by
  refine chk_go _ _ h ?_ ?_
  · unfold unusedOk isRoute emp; rw [ha]; simp
  · unfold namesOk isRoute adOk; rw [ha]; simp
theorem nums_parts {c : Cmd} (h : numsOk c = true) : (1 ≤ c.act ∧ c.act ≤ 4) ∧ (0 ≤ c.cli ∧ c.cli ≤ 32) ∧ ((c.cli = 0 ∧ c.seq = 0) ∨ (0 < c.cli ∧ 1 ≤ c.seq ∧ c.seq ≤ 1099511627776)) ∧ (-1 ≤ c.exp ∧ c.exp ≤ 1099511627775) := by
  unfold numsOk at h
  simp only [Bool.and_eq_true, decide_eq_true_eq] at h
  obtain ⟨⟨⟨h1, h2⟩, h3⟩, h4⟩ := h
  refine ⟨h1, h2, ?_, h4⟩
  split at h3
  · exact .inl ⟨by assumption, of_decide_eq_true h3⟩
  · exact .inr ⟨by omega, of_decide_eq_true h3⟩
end Go.Proofs.YtpkpnedcecjlbaaGreatDoor
end
/- Conf: the document's Check: act 1. -/
section
namespace Go.Proofs.YtpkpnedcecjlbaaGreatDoor
open Go.ChangeShapes Go.WideShapes Go.ChangeAt Go.RowKit
set_option linter.unusedVariables false

set_option maxRecDepth 20000 in
set_option maxHeartbeats 8000000 in
theorem checkR1_calls (c : Cmd) (a : Option Addr) (tc : Nat) (w : World) (h : CmdAt w c a tc) (hB : numsOk c = true) (ha : c.act = 1) : Calls Tryz.prog 12 #[cmdVal c a tc] w fun e w' => e = .returned (.int .i64 (checkC c : Int)) ∧ Below w.heap.size w w' := by
  have bX := hide (show Below w.heap.size w (w.alloc (.cells (cmdRow c a tc) 25)) from (Below.refl _ _).alloc (Nat.le_refl _) _)
  have X1 := hide (heap_new w (.cells (cmdRow c a tc) 25))
  have RT := hide (rightR_calls (h.tgs.later (unhide bX)) c.ts.length tc rfl h.tn.1 h.tz)
  have h47 : (140737488355328 : Nat) ≤ maxLen := by simp [maxLen]
  have NP := hide (fun W => poolNameR_calls c.pool (Nat.le_trans h.tl h47) W)
  have HP := hide (fun W => hostR8_calls c.host (Nat.le_trans h.th h47) W)
  have PP := hide (fun W => prefixR_calls c.pre (Nat.le_trans h.tp h47) W)
  have KK := hide (chk1 hB ha)
  have hn := h.tn.1
  have z1 := h.th
  have z2 := h.tp
  have z3 := h.tl
  have e4 := emp_eq c.host
  have e5 := emp_eq c.pre
  have e6 := emp_eq c.pool
  have nl := nil_toList
  simp only [maxLen] at hn
  obtain ⟨_, ⟨b1, b2⟩, hcs, ⟨b3, b4⟩⟩ := nums_parts hB
  clear hB
  clear h h47
  unfold cmdVal cmdRow at *
  generalize checkC c = R at *
  generalize rtN c.ts = rn at *
  generalize emp c.host = x4 at *
  generalize emp c.pre = x5 at *
  generalize emp c.pool = x6 at *
  generalize nameT c.pool = y1 at *
  generalize hostT c.host = y2 at *
  generalize prefT c.pre = y3 at *
  obtain ⟨act, cli, seq, exp, host, pre, pool, ts⟩ := c
  dsimp only at *
  subst ha
  generalize ts.length = tn at *
  have k0 := fcell0 (unhide X1) 0 (.int .i64 1) rfl
  have k1 := fcell0 (unhide X1) 1 (.int .i64 cli) rfl
  have k2 := fcell0 (unhide X1) 2 (.int .i64 seq) rfl
  have k3 := fcell0 (unhide X1) 3 (.int .i64 exp) rfl
  have k4 := fcell0 (unhide X1) 4 (.string host) rfl
  have k5 := fcell0 (unhide X1) 5 (.string pre) rfl
  have k6 := fcell0 (unhide X1) 6 (.string pool) rfl
  have k7 := fcell0 (unhide X1) 7 (.slice a tn tc) rfl
  have n3 : ¬ cli < 0 := by omega
  have n4 : ¬ 32 < cli := by omega
  have n5 : ¬ exp < -1 := by omega
  have n6 : ¬ 1099511627775 < exp := by omega
  rcases hcs with ⟨rfl, rfl⟩ | ⟨c1, c2, c3⟩
  · skip
    cases x4 with
    | false =>
      as_aux_lemma =>
      have HR : R = 2 := (unhide KK)
      subst HR
      clear KK X1
      go_enter Tryz.func12, Tryz.ntmps12
      go_wp2
      go_ret
      exact ⟨by first | rfl | (simp; done), unhide bX⟩
    | true =>
      cases x5 with
      | false =>
        as_aux_lemma =>
        have HR : R = 2 := (unhide KK)
        subst HR
        clear KK X1
        go_enter Tryz.func12, Tryz.ntmps12
        go_wp2
        go_ret
        exact ⟨by first | rfl | (simp; done), unhide bX⟩
      | true =>
        cases y1 with
        | false =>
          as_aux_lemma =>
          have HR : R = 14 := (unhide KK)
          subst HR
          clear KK X1
          go_enter Tryz.func12, Tryz.ntmps12
          go_wp2_with fail
          refine (unhide NP _).mono ?_
          rintro e w' ⟨rfl, rfl⟩
          go_wp2
          go_ret
          exact ⟨by first | rfl | (simp; done), unhide bX⟩
        | true =>
          as_aux_lemma =>
          have HR : R = rn := (unhide KK)
          subst HR
          clear KK X1
          go_enter Tryz.func12, Tryz.ntmps12
          go_wp2_with fail
          refine (unhide NP _).mono ?_
          rintro e w' ⟨rfl, rfl⟩
          go_wp2_with fail
          refine (unhide RT).mono ?_
          rintro e w' ⟨rfl, rfl⟩
          go_wp2
          go_ret
          exact ⟨by first | rfl | (simp; done), unhide bX⟩
  · have j7 : (cli == 0) = false := by simp; omega
    have j7' : ¬ cli = 0 := by omega
    have j8 : ¬ seq < 1 := by omega
    have j9 : ¬ 1099511627776 < seq := by omega
    clear b1 b2 b3 b4 c2 c3
    cases x4 with
    | false =>
      as_aux_lemma =>
      have HR : R = 2 := (unhide KK)
      subst HR
      clear KK X1
      go_enter Tryz.func12, Tryz.ntmps12
      go_wp2
      go_ret
      exact ⟨by first | rfl | (simp; done), unhide bX⟩
    | true =>
      cases x5 with
      | false =>
        as_aux_lemma =>
        have HR : R = 2 := (unhide KK)
        subst HR
        clear KK X1
        go_enter Tryz.func12, Tryz.ntmps12
        go_wp2
        go_ret
        exact ⟨by first | rfl | (simp; done), unhide bX⟩
      | true =>
        cases y1 with
        | false =>
          as_aux_lemma =>
          have HR : R = 14 := (unhide KK)
          subst HR
          clear KK X1
          go_enter Tryz.func12, Tryz.ntmps12
          go_wp2_with fail
          refine (unhide NP _).mono ?_
          rintro e w' ⟨rfl, rfl⟩
          go_wp2
          go_ret
          exact ⟨by first | rfl | (simp; done), unhide bX⟩
        | true =>
          as_aux_lemma =>
          have HR : R = rn := (unhide KK)
          subst HR
          clear KK X1
          go_enter Tryz.func12, Tryz.ntmps12
          go_wp2_with fail
          refine (unhide NP _).mono ?_
          rintro e w' ⟨rfl, rfl⟩
          go_wp2_with fail
          refine (unhide RT).mono ?_
          rintro e w' ⟨rfl, rfl⟩
          go_wp2
          go_ret
          exact ⟨by first | rfl | (simp; done), unhide bX⟩
end Go.Proofs.YtpkpnedcecjlbaaGreatDoor
end
/- Conf: the document's Check: act 2. -/
section
namespace Go.Proofs.YtpkpnedcecjlbaaGreatDoor
open Go.ChangeShapes Go.WideShapes Go.ChangeAt Go.RowKit
set_option linter.unusedVariables false

set_option maxRecDepth 20000 in
set_option maxHeartbeats 8000000 in
theorem checkR2_calls (c : Cmd) (a : Option Addr) (tc : Nat) (w : World) (h : CmdAt w c a tc) (hB : numsOk c = true) (ha : c.act = 2) : Calls Tryz.prog 12 #[cmdVal c a tc] w fun e w' => e = .returned (.int .i64 (checkC c : Int)) ∧ Below w.heap.size w w' := by
  have bX := hide (show Below w.heap.size w (w.alloc (.cells (cmdRow c a tc) 25)) from (Below.refl _ _).alloc (Nat.le_refl _) _)
  have X1 := hide (heap_new w (.cells (cmdRow c a tc) 25))
  have RT := hide (rightR_calls (h.tgs.later (unhide bX)) c.ts.length tc rfl h.tn.1 h.tz)
  have h47 : (140737488355328 : Nat) ≤ maxLen := by simp [maxLen]
  have NP := hide (fun W => poolNameR_calls c.pool (Nat.le_trans h.tl h47) W)
  have HP := hide (fun W => hostR8_calls c.host (Nat.le_trans h.th h47) W)
  have PP := hide (fun W => prefixR_calls c.pre (Nat.le_trans h.tp h47) W)
  have KK := hide (chk2 hB ha)
  have hn := h.tn.1
  have z1 := h.th
  have z2 := h.tp
  have z3 := h.tl
  have e4 := emp_eq c.host
  have e5 := emp_eq c.pre
  have e6 := emp_eq c.pool
  have nl := nil_toList
  simp only [maxLen] at hn
  obtain ⟨_, ⟨b1, b2⟩, hcs, ⟨b3, b4⟩⟩ := nums_parts hB
  clear hB
  clear h h47
  unfold cmdVal cmdRow at *
  generalize checkC c = R at *
  generalize rtN c.ts = rn at *
  generalize emp c.host = x4 at *
  generalize emp c.pre = x5 at *
  generalize emp c.pool = x6 at *
  generalize nameT c.pool = y1 at *
  generalize hostT c.host = y2 at *
  generalize prefT c.pre = y3 at *
  obtain ⟨act, cli, seq, exp, host, pre, pool, ts⟩ := c
  dsimp only at *
  subst ha
  generalize ts.length = tn at *
  have k0 := fcell0 (unhide X1) 0 (.int .i64 2) rfl
  have k1 := fcell0 (unhide X1) 1 (.int .i64 cli) rfl
  have k2 := fcell0 (unhide X1) 2 (.int .i64 seq) rfl
  have k3 := fcell0 (unhide X1) 3 (.int .i64 exp) rfl
  have k4 := fcell0 (unhide X1) 4 (.string host) rfl
  have k5 := fcell0 (unhide X1) 5 (.string pre) rfl
  have k6 := fcell0 (unhide X1) 6 (.string pool) rfl
  have k7 := fcell0 (unhide X1) 7 (.slice a tn tc) rfl
  have n3 : ¬ cli < 0 := by omega
  have n4 : ¬ 32 < cli := by omega
  have n5 : ¬ exp < -1 := by omega
  have n6 : ¬ 1099511627775 < exp := by omega
  rcases hcs with ⟨rfl, rfl⟩ | ⟨c1, c2, c3⟩
  · skip
    by_cases hn0 : tn = 0
    · subst hn0
      cases x4 with
      | false =>
        as_aux_lemma =>
        have HR : R = 2 := (unhide KK)
        subst HR
        clear KK X1
        go_enter Tryz.func12, Tryz.ntmps12
        go_wp2
        go_ret
        exact ⟨by first | rfl | (simp; done), unhide bX⟩
      | true =>
        cases x5 with
        | false =>
          as_aux_lemma =>
          have HR : R = 2 := (unhide KK)
          subst HR
          clear KK X1
          go_enter Tryz.func12, Tryz.ntmps12
          go_wp2
          go_ret
          exact ⟨by first | rfl | (simp; done), unhide bX⟩
        | true =>
          cases y1 with
          | false =>
            as_aux_lemma =>
            have HR : R = 14 := (unhide KK)
            subst HR
            clear KK X1
            go_enter Tryz.func12, Tryz.ntmps12
            go_wp2_with fail
            refine (unhide NP _).mono ?_
            rintro e w' ⟨rfl, rfl⟩
            go_wp2
            go_ret
            exact ⟨by first | rfl | (simp; done), unhide bX⟩
          | true =>
            as_aux_lemma =>
            have HR : R = rn := (unhide KK)
            subst HR
            clear KK X1
            go_enter Tryz.func12, Tryz.ntmps12
            go_wp2_with fail
            refine (unhide NP _).mono ?_
            rintro e w' ⟨rfl, rfl⟩
            go_wp2_with fail
            refine (unhide RT).mono ?_
            rintro e w' ⟨rfl, rfl⟩
            go_wp2
            go_ret
            exact ⟨by first | rfl | (simp; done), unhide bX⟩
    · have hp : (0 : Int) < (tn : Int) := by omega
      rw [show decide (tn = 0) = false from decide_eq_false hn0, Bool.and_false] at KK
      cases x4 with
      | false =>
        as_aux_lemma =>
        have HR : R = 2 := (unhide KK)
        subst HR
        clear KK X1
        go_enter Tryz.func12, Tryz.ntmps12
        go_wp2
        go_ret
        exact ⟨by first | rfl | (simp; done), unhide bX⟩
      | true =>
        cases x5 with
        | false =>
          as_aux_lemma =>
          have HR : R = 2 := (unhide KK)
          subst HR
          clear KK X1
          go_enter Tryz.func12, Tryz.ntmps12
          go_wp2
          go_ret
          exact ⟨by first | rfl | (simp; done), unhide bX⟩
        | true =>
          as_aux_lemma =>
          have HR : R = 2 := (unhide KK)
          subst HR
          clear KK X1
          go_enter Tryz.func12, Tryz.ntmps12
          go_wp2
          go_ret
          exact ⟨by first | rfl | (simp; done), unhide bX⟩
  · have j7 : (cli == 0) = false := by simp; omega
    have j7' : ¬ cli = 0 := by omega
    have j8 : ¬ seq < 1 := by omega
    have j9 : ¬ 1099511627776 < seq := by omega
    clear b1 b2 b3 b4 c2 c3
    by_cases hn0 : tn = 0
    · subst hn0
      cases x4 with
      | false =>
        as_aux_lemma =>
        have HR : R = 2 := (unhide KK)
        subst HR
        clear KK X1
        go_enter Tryz.func12, Tryz.ntmps12
        go_wp2
        go_ret
        exact ⟨by first | rfl | (simp; done), unhide bX⟩
      | true =>
        cases x5 with
        | false =>
          as_aux_lemma =>
          have HR : R = 2 := (unhide KK)
          subst HR
          clear KK X1
          go_enter Tryz.func12, Tryz.ntmps12
          go_wp2
          go_ret
          exact ⟨by first | rfl | (simp; done), unhide bX⟩
        | true =>
          cases y1 with
          | false =>
            as_aux_lemma =>
            have HR : R = 14 := (unhide KK)
            subst HR
            clear KK X1
            go_enter Tryz.func12, Tryz.ntmps12
            go_wp2_with fail
            refine (unhide NP _).mono ?_
            rintro e w' ⟨rfl, rfl⟩
            go_wp2
            go_ret
            exact ⟨by first | rfl | (simp; done), unhide bX⟩
          | true =>
            as_aux_lemma =>
            have HR : R = rn := (unhide KK)
            subst HR
            clear KK X1
            go_enter Tryz.func12, Tryz.ntmps12
            go_wp2_with fail
            refine (unhide NP _).mono ?_
            rintro e w' ⟨rfl, rfl⟩
            go_wp2_with fail
            refine (unhide RT).mono ?_
            rintro e w' ⟨rfl, rfl⟩
            go_wp2
            go_ret
            exact ⟨by first | rfl | (simp; done), unhide bX⟩
    · have hp : (0 : Int) < (tn : Int) := by omega
      rw [show decide (tn = 0) = false from decide_eq_false hn0, Bool.and_false] at KK
      cases x4 with
      | false =>
        as_aux_lemma =>
        have HR : R = 2 := (unhide KK)
        subst HR
        clear KK X1
        go_enter Tryz.func12, Tryz.ntmps12
        go_wp2
        go_ret
        exact ⟨by first | rfl | (simp; done), unhide bX⟩
      | true =>
        cases x5 with
        | false =>
          as_aux_lemma =>
          have HR : R = 2 := (unhide KK)
          subst HR
          clear KK X1
          go_enter Tryz.func12, Tryz.ntmps12
          go_wp2
          go_ret
          exact ⟨by first | rfl | (simp; done), unhide bX⟩
        | true =>
          as_aux_lemma =>
          have HR : R = 2 := (unhide KK)
          subst HR
          clear KK X1
          go_enter Tryz.func12, Tryz.ntmps12
          go_wp2
          go_ret
          exact ⟨by first | rfl | (simp; done), unhide bX⟩
end Go.Proofs.YtpkpnedcecjlbaaGreatDoor
end
/- Conf: the document's Check: act 3. -/
section
namespace Go.Proofs.YtpkpnedcecjlbaaGreatDoor
open Go.ChangeShapes Go.WideShapes Go.ChangeAt Go.RowKit
set_option linter.unusedVariables false

set_option maxRecDepth 20000 in
set_option maxHeartbeats 8000000 in
theorem checkR3_calls (c : Cmd) (a : Option Addr) (tc : Nat) (w : World) (h : CmdAt w c a tc) (hB : numsOk c = true) (ha : c.act = 3) : Calls Tryz.prog 12 #[cmdVal c a tc] w fun e w' => e = .returned (.int .i64 (checkC c : Int)) ∧ Below w.heap.size w w' := by
  have bX := hide (show Below w.heap.size w (w.alloc (.cells (cmdRow c a tc) 25)) from (Below.refl _ _).alloc (Nat.le_refl _) _)
  have X1 := hide (heap_new w (.cells (cmdRow c a tc) 25))
  have RT := hide (rightR_calls (h.tgs.later (unhide bX)) c.ts.length tc rfl h.tn.1 h.tz)
  have h47 : (140737488355328 : Nat) ≤ maxLen := by simp [maxLen]
  have NP := hide (fun W => poolNameR_calls c.pool (Nat.le_trans h.tl h47) W)
  have HP := hide (fun W => hostR8_calls c.host (Nat.le_trans h.th h47) W)
  have PP := hide (fun W => prefixR_calls c.pre (Nat.le_trans h.tp h47) W)
  have KK := hide (chk3 hB ha)
  have hn := h.tn.1
  have z1 := h.th
  have z2 := h.tp
  have z3 := h.tl
  have e4 := emp_eq c.host
  have e5 := emp_eq c.pre
  have e6 := emp_eq c.pool
  have nl := nil_toList
  simp only [maxLen] at hn
  obtain ⟨_, ⟨b1, b2⟩, hcs, ⟨b3, b4⟩⟩ := nums_parts hB
  clear hB
  clear h h47
  unfold cmdVal cmdRow at *
  generalize checkC c = R at *
  generalize rtN c.ts = rn at *
  generalize emp c.host = x4 at *
  generalize emp c.pre = x5 at *
  generalize emp c.pool = x6 at *
  generalize nameT c.pool = y1 at *
  generalize hostT c.host = y2 at *
  generalize prefT c.pre = y3 at *
  obtain ⟨act, cli, seq, exp, host, pre, pool, ts⟩ := c
  dsimp only at *
  subst ha
  generalize ts.length = tn at *
  have k0 := fcell0 (unhide X1) 0 (.int .i64 3) rfl
  have k1 := fcell0 (unhide X1) 1 (.int .i64 cli) rfl
  have k2 := fcell0 (unhide X1) 2 (.int .i64 seq) rfl
  have k3 := fcell0 (unhide X1) 3 (.int .i64 exp) rfl
  have k4 := fcell0 (unhide X1) 4 (.string host) rfl
  have k5 := fcell0 (unhide X1) 5 (.string pre) rfl
  have k6 := fcell0 (unhide X1) 6 (.string pool) rfl
  have k7 := fcell0 (unhide X1) 7 (.slice a tn tc) rfl
  have n3 : ¬ cli < 0 := by omega
  have n4 : ¬ 32 < cli := by omega
  have n5 : ¬ exp < -1 := by omega
  have n6 : ¬ 1099511627775 < exp := by omega
  rcases hcs with ⟨rfl, rfl⟩ | ⟨c1, c2, c3⟩
  · skip
    by_cases hn0 : tn = 0
    · subst hn0
      cases y1 with
      | false =>
        as_aux_lemma =>
        have HR : R = 14 := (unhide KK)
        subst HR
        clear KK X1
        go_enter Tryz.func12, Tryz.ntmps12
        go_wp2_with fail
        refine (unhide NP _).mono ?_
        rintro e w' ⟨rfl, rfl⟩
        go_wp2
        go_ret
        exact ⟨by first | rfl | (simp; done), unhide bX⟩
      | true =>
        cases y2 with
        | false =>
          as_aux_lemma =>
          have HR : R = 14 := (unhide KK)
          subst HR
          clear KK X1
          go_enter Tryz.func12, Tryz.ntmps12
          go_wp2_with fail
          refine (unhide NP _).mono ?_
          rintro e w' ⟨rfl, rfl⟩
          go_wp2_with fail
          refine (unhide HP _).mono ?_
          rintro e w' ⟨rfl, rfl⟩
          go_wp2
          go_ret
          exact ⟨by first | rfl | (simp; done), unhide bX⟩
        | true =>
          cases y3 with
          | false =>
            as_aux_lemma =>
            have HR : R = 14 := (unhide KK)
            subst HR
            clear KK X1
            go_enter Tryz.func12, Tryz.ntmps12
            go_wp2_with fail
            refine (unhide NP _).mono ?_
            rintro e w' ⟨rfl, rfl⟩
            go_wp2_with fail
            refine (unhide HP _).mono ?_
            rintro e w' ⟨rfl, rfl⟩
            go_wp2_with fail
            refine (unhide PP _).mono ?_
            rintro e w' ⟨rfl, rfl⟩
            go_wp2
            go_ret
            exact ⟨by first | rfl | (simp; done), unhide bX⟩
          | true =>
            as_aux_lemma =>
            have HR : R = rn := (unhide KK)
            subst HR
            clear KK X1
            go_enter Tryz.func12, Tryz.ntmps12
            go_wp2_with fail
            refine (unhide NP _).mono ?_
            rintro e w' ⟨rfl, rfl⟩
            go_wp2_with fail
            refine (unhide HP _).mono ?_
            rintro e w' ⟨rfl, rfl⟩
            go_wp2_with fail
            refine (unhide PP _).mono ?_
            rintro e w' ⟨rfl, rfl⟩
            go_wp2_with fail
            refine (unhide RT).mono ?_
            rintro e w' ⟨rfl, rfl⟩
            go_wp2
            go_ret
            exact ⟨by first | rfl | (simp; done), unhide bX⟩
    · have hp : (0 : Int) < (tn : Int) := by omega
      rw [show decide (tn = 0) = false from decide_eq_false hn0] at KK
      as_aux_lemma =>
      have HR : R = 2 := (unhide KK)
      subst HR
      clear KK X1
      go_enter Tryz.func12, Tryz.ntmps12
      go_wp2
      go_ret
      exact ⟨by first | rfl | (simp; done), unhide bX⟩
  · have j7 : (cli == 0) = false := by simp; omega
    have j7' : ¬ cli = 0 := by omega
    have j8 : ¬ seq < 1 := by omega
    have j9 : ¬ 1099511627776 < seq := by omega
    clear b1 b2 b3 b4 c2 c3
    by_cases hn0 : tn = 0
    · subst hn0
      cases y1 with
      | false =>
        as_aux_lemma =>
        have HR : R = 14 := (unhide KK)
        subst HR
        clear KK X1
        go_enter Tryz.func12, Tryz.ntmps12
        go_wp2_with fail
        refine (unhide NP _).mono ?_
        rintro e w' ⟨rfl, rfl⟩
        go_wp2
        go_ret
        exact ⟨by first | rfl | (simp; done), unhide bX⟩
      | true =>
        cases y2 with
        | false =>
          as_aux_lemma =>
          have HR : R = 14 := (unhide KK)
          subst HR
          clear KK X1
          go_enter Tryz.func12, Tryz.ntmps12
          go_wp2_with fail
          refine (unhide NP _).mono ?_
          rintro e w' ⟨rfl, rfl⟩
          go_wp2_with fail
          refine (unhide HP _).mono ?_
          rintro e w' ⟨rfl, rfl⟩
          go_wp2
          go_ret
          exact ⟨by first | rfl | (simp; done), unhide bX⟩
        | true =>
          cases y3 with
          | false =>
            as_aux_lemma =>
            have HR : R = 14 := (unhide KK)
            subst HR
            clear KK X1
            go_enter Tryz.func12, Tryz.ntmps12
            go_wp2_with fail
            refine (unhide NP _).mono ?_
            rintro e w' ⟨rfl, rfl⟩
            go_wp2_with fail
            refine (unhide HP _).mono ?_
            rintro e w' ⟨rfl, rfl⟩
            go_wp2_with fail
            refine (unhide PP _).mono ?_
            rintro e w' ⟨rfl, rfl⟩
            go_wp2
            go_ret
            exact ⟨by first | rfl | (simp; done), unhide bX⟩
          | true =>
            as_aux_lemma =>
            have HR : R = rn := (unhide KK)
            subst HR
            clear KK X1
            go_enter Tryz.func12, Tryz.ntmps12
            go_wp2_with fail
            refine (unhide NP _).mono ?_
            rintro e w' ⟨rfl, rfl⟩
            go_wp2_with fail
            refine (unhide HP _).mono ?_
            rintro e w' ⟨rfl, rfl⟩
            go_wp2_with fail
            refine (unhide PP _).mono ?_
            rintro e w' ⟨rfl, rfl⟩
            go_wp2_with fail
            refine (unhide RT).mono ?_
            rintro e w' ⟨rfl, rfl⟩
            go_wp2
            go_ret
            exact ⟨by first | rfl | (simp; done), unhide bX⟩
    · have hp : (0 : Int) < (tn : Int) := by omega
      rw [show decide (tn = 0) = false from decide_eq_false hn0] at KK
      as_aux_lemma =>
      have HR : R = 2 := (unhide KK)
      subst HR
      clear KK X1
      go_enter Tryz.func12, Tryz.ntmps12
      go_wp2
      go_ret
      exact ⟨by first | rfl | (simp; done), unhide bX⟩
end Go.Proofs.YtpkpnedcecjlbaaGreatDoor
end
