/- Conf: the document's Check: act 4. -/
import Derived.Test.YtpkpnedcecjlbaaGreatDoorB40
import Derived.Test.YtpkpnedcecjlbaaGreatDoorB03
import Derived.Test.YtpkpnedcecjlbaaGreatDoorB21
section
namespace Go.Proofs.YtpkpnedcecjlbaaGreatDoor
open Go.ChangeShapes Go.WideShapes Go.ChangeAt Go.RowKit
set_option linter.unusedVariables false

set_option maxRecDepth 20000 in
set_option maxHeartbeats 8000000 in
theorem checkR4_calls (c : Cmd) (a : Option Addr) (tc : Nat) (w : World) (h : CmdAt w c a tc) (hB : numsOk c = true) (ha : c.act = 4) : Calls Tryz.prog 12 #[cmdVal c a tc] w fun e w' => e = .returned (.int .i64 (checkC c : Int)) ∧ Below w.heap.size w w' := by
  have bX := hide (show Below w.heap.size w (w.alloc (.cells (cmdRow c a tc) 25)) from (Below.refl _ _).alloc (Nat.le_refl _) _)
  have X1 := hide (heap_new w (.cells (cmdRow c a tc) 25))
  have RT := hide (rightR_calls (h.tgs.later (unhide bX)) c.ts.length tc rfl h.tn.1 h.tz)
  have h47 : (140737488355328 : Nat) ≤ maxLen := by simp [maxLen]
  have NP := hide (fun W => poolNameR_calls c.pool (Nat.le_trans h.tl h47) W)
  have HP := hide (fun W => hostR8_calls c.host (Nat.le_trans h.th h47) W)
  have PP := hide (fun W => prefixR_calls c.pre (Nat.le_trans h.tp h47) W)
  have KK := hide (chk4 hB ha)
  have hn := h.tn.1
  have z1 := h.th
  have z2 := h.tp
  have z3 := h.tl
  have e4 := emp_eq c.host
  have e5 := emp_eq c.pre
  have e6 := emp_eq c.pool
  have nl := nil_toList
  simp only [maxLen] at hn
  obtain ⟨_, ⟨b1, b2⟩, hcs, ⟨b3, b4⟩⟩ := nums_parts hB
  clear hB
  clear h h47
  unfold cmdVal cmdRow at *
  generalize checkC c = R at *
  generalize rtN c.ts = rn at *
  generalize emp c.host = x4 at *
  generalize emp c.pre = x5 at *
  generalize emp c.pool = x6 at *
  generalize nameT c.pool = y1 at *
  generalize hostT c.host = y2 at *
  generalize prefT c.pre = y3 at *
  obtain ⟨act, cli, seq, exp, host, pre, pool, ts⟩ := c
  dsimp only at *
  subst ha
  generalize ts.length = tn at *
  have k0 := fcell0 (unhide X1) 0 (.int .i64 4) rfl
  have k1 := fcell0 (unhide X1) 1 (.int .i64 cli) rfl
  have k2 := fcell0 (unhide X1) 2 (.int .i64 seq) rfl
  have k3 := fcell0 (unhide X1) 3 (.int .i64 exp) rfl
  have k4 := fcell0 (unhide X1) 4 (.string host) rfl
  have k5 := fcell0 (unhide X1) 5 (.string pre) rfl
  have k6 := fcell0 (unhide X1) 6 (.string pool) rfl
  have k7 := fcell0 (unhide X1) 7 (.slice a tn tc) rfl
  have n3 : ¬ cli < 0 := by omega
  have n4 : ¬ 32 < cli := by omega
  have n5 : ¬ exp < -1 := by omega
  have n6 : ¬ 1099511627775 < exp := by omega
  rcases hcs with ⟨rfl, rfl⟩ | ⟨c1, c2, c3⟩
  · skip
    by_cases hn0 : tn = 0
    · subst hn0
      cases x6 with
      | false =>
        as_aux_lemma =>
        have HR : R = 2 := (unhide KK)
        subst HR
        clear KK X1
        go_enter Tryz.func12, Tryz.ntmps12
        go_wp2
        go_ret
        exact ⟨by first | rfl | (simp; done), unhide bX⟩
      | true =>
        cases y2 with
        | false =>
          as_aux_lemma =>
          have HR : R = 14 := (unhide KK)
          subst HR
          clear KK X1
          go_enter Tryz.func12, Tryz.ntmps12
          go_wp2_with fail
          refine (unhide HP _).mono ?_
          rintro e w' ⟨rfl, rfl⟩
          go_wp2
          go_ret
          exact ⟨by first | rfl | (simp; done), unhide bX⟩
        | true =>
          cases y3 with
          | false =>
            as_aux_lemma =>
            have HR : R = 14 := (unhide KK)
            subst HR
            clear KK X1
            go_enter Tryz.func12, Tryz.ntmps12
            go_wp2_with fail
            refine (unhide HP _).mono ?_
            rintro e w' ⟨rfl, rfl⟩
            go_wp2_with fail
            refine (unhide PP _).mono ?_
            rintro e w' ⟨rfl, rfl⟩
            go_wp2
            go_ret
            exact ⟨by first | rfl | (simp; done), unhide bX⟩
          | true =>
            as_aux_lemma =>
            have HR : R = rn := (unhide KK)
            subst HR
            clear KK X1
            go_enter Tryz.func12, Tryz.ntmps12
            go_wp2_with fail
            refine (unhide HP _).mono ?_
            rintro e w' ⟨rfl, rfl⟩
            go_wp2_with fail
            refine (unhide PP _).mono ?_
            rintro e w' ⟨rfl, rfl⟩
            go_wp2_with fail
            refine (unhide RT).mono ?_
            rintro e w' ⟨rfl, rfl⟩
            go_wp2
            go_ret
            exact ⟨by first | rfl | (simp; done), unhide bX⟩
    · have hp : (0 : Int) < (tn : Int) := by omega
      rw [show decide (tn = 0) = false from decide_eq_false hn0, Bool.and_false] at KK
      as_aux_lemma =>
      have HR : R = 2 := (unhide KK)
      subst HR
      clear KK X1
      go_enter Tryz.func12, Tryz.ntmps12
      go_wp2
      go_ret
      exact ⟨by first | rfl | (simp; done), unhide bX⟩
  · have j7 : (cli == 0) = false := by simp; omega
    have j7' : ¬ cli = 0 := by omega
    have j8 : ¬ seq < 1 := by omega
    have j9 : ¬ 1099511627776 < seq := by omega
    clear b1 b2 b3 b4 c2 c3
    by_cases hn0 : tn = 0
    · subst hn0
      cases x6 with
      | false =>
        as_aux_lemma =>
        have HR : R = 2 := (unhide KK)
        subst HR
        clear KK X1
        go_enter Tryz.func12, Tryz.ntmps12
        go_wp2
        go_ret
        exact ⟨by first | rfl | (simp; done), unhide bX⟩
      | true =>
        cases y2 with
        | false =>
          as_aux_lemma =>
          have HR : R = 14 := (unhide KK)
          subst HR
          clear KK X1
          go_enter Tryz.func12, Tryz.ntmps12
          go_wp2_with fail
          refine (unhide HP _).mono ?_
          rintro e w' ⟨rfl, rfl⟩
          go_wp2
          go_ret
          exact ⟨by first | rfl | (simp; done), unhide bX⟩
        | true =>
          cases y3 with
          | false =>
            as_aux_lemma =>
            have HR : R = 14 := (unhide KK)
            subst HR
            clear KK X1
            go_enter Tryz.func12, Tryz.ntmps12
            go_wp2_with fail
            refine (unhide HP _).mono ?_
            rintro e w' ⟨rfl, rfl⟩
            go_wp2_with fail
            refine (unhide PP _).mono ?_
            rintro e w' ⟨rfl, rfl⟩
            go_wp2
            go_ret
            exact ⟨by first | rfl | (simp; done), unhide bX⟩
          | true =>
            as_aux_lemma =>
            have HR : R = rn := (unhide KK)
            subst HR
            clear KK X1
            go_enter Tryz.func12, Tryz.ntmps12
            go_wp2_with fail
            refine (unhide HP _).mono ?_
            rintro e w' ⟨rfl, rfl⟩
            go_wp2_with fail
            refine (unhide PP _).mono ?_
            rintro e w' ⟨rfl, rfl⟩
            go_wp2_with fail
            refine (unhide RT).mono ?_
            rintro e w' ⟨rfl, rfl⟩
            go_wp2
            go_ret
            exact ⟨by first | rfl | (simp; done), unhide bX⟩
    · have hp : (0 : Int) < (tn : Int) := by omega
      rw [show decide (tn = 0) = false from decide_eq_false hn0, Bool.and_false] at KK
      as_aux_lemma =>
      have HR : R = 2 := (unhide KK)
      subst HR
      clear KK X1
      go_enter Tryz.func12, Tryz.ntmps12
      go_wp2
      go_ret
      exact ⟨by first | rfl | (simp; done), unhide bX⟩
end Go.Proofs.YtpkpnedcecjlbaaGreatDoor
end
/- Conf: the document's Check. -/
section
namespace Go.Proofs.YtpkpnedcecjlbaaGreatDoor
open Go.ChangeShapes Go.WideShapes Go.ChangeAt Go.RowKit
set_option linter.unusedVariables false

set_option maxRecDepth 20000 in
set_option maxHeartbeats 8000000 in
theorem checkR0_calls (c : Cmd) (a : Option Addr) (tc : Nat) (w : World) (h : CmdAt w c a tc) (hB : numsOk c = false) : Calls Tryz.prog 12 #[cmdVal c a tc] w fun e w' => e = .returned (.int .i64 (checkC c : Int)) ∧ Below w.heap.size w w' := by
  have bX := hide (show Below w.heap.size w (w.alloc (.cells (cmdRow c a tc) 25)) from (Below.refl _ _).alloc (Nat.le_refl _) _)
  have X1 := hide (heap_new w (.cells (cmdRow c a tc) 25))
  have RT := hide (rightR_calls (h.tgs.later (unhide bX)) c.ts.length tc rfl h.tn.1 h.tz)
  have h47 : (140737488355328 : Nat) ≤ maxLen := by simp [maxLen]
  have NP := hide (fun W => poolNameR_calls c.pool (Nat.le_trans h.tl h47) W)
  have HP := hide (fun W => hostR8_calls c.host (Nat.le_trans h.th h47) W)
  have PP := hide (fun W => prefixR_calls c.pre (Nat.le_trans h.tp h47) W)
  have HR : checkC c = 2 := chk_no hB
  have hn := h.tn.1
  have z1 := h.th
  have z2 := h.tp
  have z3 := h.tl
  have e4 := emp_eq c.host
  have e5 := emp_eq c.pre
  have e6 := emp_eq c.pool
  have nl := nil_toList
  simp only [maxLen] at hn
  have NE : numsOk c = (decide (1 ≤ c.act ∧ c.act ≤ 4) && decide (0 ≤ c.cli ∧ c.cli ≤ 32) && (if c.cli = 0 then decide (c.seq = 0) else decide (1 ≤ c.seq ∧ c.seq ≤ 1099511627776)) && decide (-1 ≤ c.exp ∧ c.exp ≤ 1099511627775)) := rfl
  rw [hB] at NE
  replace NE := hide NE
  clear hB RT NP HP PP
  clear h h47
  unfold cmdVal cmdRow at *
  generalize checkC c = R at *
  generalize rtN c.ts = rn at *
  generalize emp c.host = x4 at *
  generalize emp c.pre = x5 at *
  generalize emp c.pool = x6 at *
  generalize nameT c.pool = y1 at *
  generalize hostT c.host = y2 at *
  generalize prefT c.pre = y3 at *
  obtain ⟨act, cli, seq, exp, host, pre, pool, ts⟩ := c
  dsimp only at *
  generalize ts.length = tn at *
  have k0 := fcell0 (unhide X1) 0 (.int .i64 act) rfl
  have k1 := fcell0 (unhide X1) 1 (.int .i64 cli) rfl
  have k2 := fcell0 (unhide X1) 2 (.int .i64 seq) rfl
  have k3 := fcell0 (unhide X1) 3 (.int .i64 exp) rfl
  have k4 := fcell0 (unhide X1) 4 (.string host) rfl
  have k5 := fcell0 (unhide X1) 5 (.string pre) rfl
  have k6 := fcell0 (unhide X1) 6 (.string pool) rfl
  have k7 := fcell0 (unhide X1) 7 (.slice a tn tc) rfl
  by_cases g1 : act < 1
  · clear NE
    as_aux_lemma =>
    subst HR
    clear X1
    go_enter Tryz.func12, Tryz.ntmps12
    go_wp2
    go_ret
    exact ⟨rfl, unhide bX⟩
  skip
  by_cases g2 : 4 < act
  · clear NE
    as_aux_lemma =>
    subst HR
    clear X1
    go_enter Tryz.func12, Tryz.ntmps12
    go_wp2
    go_ret
    exact ⟨rfl, unhide bX⟩
  skip
  by_cases g3 : cli < 0
  · clear NE
    as_aux_lemma =>
    subst HR
    clear X1
    go_enter Tryz.func12, Tryz.ntmps12
    go_wp2
    go_ret
    exact ⟨rfl, unhide bX⟩
  skip
  by_cases g4 : 32 < cli
  · clear NE
    as_aux_lemma =>
    subst HR
    clear X1
    go_enter Tryz.func12, Tryz.ntmps12
    go_wp2
    go_ret
    exact ⟨rfl, unhide bX⟩
  skip
  by_cases g5 : exp < -1
  · clear NE
    as_aux_lemma =>
    subst HR
    clear X1
    go_enter Tryz.func12, Tryz.ntmps12
    go_wp2
    go_ret
    exact ⟨rfl, unhide bX⟩
  skip
  by_cases g6 : 1099511627775 < exp
  · clear NE
    as_aux_lemma =>
    subst HR
    clear X1
    go_enter Tryz.func12, Tryz.ntmps12
    go_wp2
    go_ret
    exact ⟨rfl, unhide bX⟩
  skip
  by_cases g7 : cli = 0
  · subst g7
    by_cases g8 : seq = 0
    · exfalso
      have hb := unhide NE
      rw [decide_eq_true (show 1 ≤ act ∧ act ≤ 4 by omega), decide_eq_true (show (0 : Int) ≤ 0 ∧ (0 : Int) ≤ 32 by omega), if_pos rfl, decide_eq_true (show seq = 0 from g8), decide_eq_true (show -1 ≤ exp ∧ exp ≤ 1099511627775 by omega)] at hb
      cases hb
    · have j8 : (seq == 0) = false := by simp [g8]
      have j8' : (seq != 0) = true := by simp [g8]
      clear NE
      as_aux_lemma =>
      subst HR
      clear X1
      go_enter Tryz.func12, Tryz.ntmps12
      go_wp2
      go_ret
      exact ⟨rfl, unhide bX⟩
  · have j7 : (cli == 0) = false := by simp [g7]
    have g9 : 0 < cli := by omega
    by_cases g10 : seq < 1
    · clear NE
      as_aux_lemma =>
      subst HR
      clear X1
      go_enter Tryz.func12, Tryz.ntmps12
      go_wp2
      go_ret
      exact ⟨rfl, unhide bX⟩
    by_cases g11 : 1099511627776 < seq
    · clear NE
      as_aux_lemma =>
      subst HR
      clear X1
      go_enter Tryz.func12, Tryz.ntmps12
      go_wp2
      go_ret
      exact ⟨rfl, unhide bX⟩
    exfalso
    have hb := unhide NE
    rw [decide_eq_true (show 1 ≤ act ∧ act ≤ 4 by omega), decide_eq_true (show 0 ≤ cli ∧ cli ≤ 32 by omega), if_neg g7, decide_eq_true (show 1 ≤ seq ∧ seq ≤ 1099511627776 by omega), decide_eq_true (show -1 ≤ exp ∧ exp ≤ 1099511627775 by omega)] at hb
    cases hb
theorem checkR_calls (c : Cmd) (a : Option Addr) (tc : Nat) (w : World) (h : CmdAt w c a tc) : Calls Tryz.prog 12 #[cmdVal c a tc] w fun e w' => e = .returned (.int .i64 (checkC c : Int)) ∧ Below w.heap.size w w' := by
  cases hB : numsOk c with
  | false => exact checkR0_calls c a tc w h hB
  | true =>
    have hp := (nums_parts hB).1
    have ha : c.act = 1 ∨ c.act = 2 ∨ c.act = 3 ∨ c.act = 4 := by omega
    rcases ha with ha | ha | ha | ha
    · exact checkR1_calls c a tc w h hB ha
    · exact checkR2_calls c a tc w h hB ha
    · exact checkR3_calls c a tc w h hB ha
    · exact checkR4_calls c a tc w h hB ha
end Go.Proofs.YtpkpnedcecjlbaaGreatDoor
end
/- The contracts of the document's answers of layer 2: Number. -/
section
namespace Go.Proofs.YtpkpnedcecjlbaaGreatDoor
open Go.ChangeShapes Go.WideShapes Go.ChangeAt Go.RowKit

theorem refNumber_no (n : Int) (w : World) (h : ¬ (0 ≤ n ∧ n ≤ 1099511627776)) :
    Calls Tryz.prog 57 #[.int .i64 n] w fun e w' => e = .returned (.tuple #[.slice none 0 0, .int .i64 2]) ∧ w' = w := by
  by_cases h0 : 0 ≤ n
  · have h1 : ¬ n ≤ 1099511627776 := fun h1 => h ⟨h0, h1⟩
    clear h
    go_enter Tryz.func57, Tryz.ntmps57
    go_wp2
    go_ret2
    exact ⟨rfl, rfl⟩
  · clear h
    go_enter Tryz.func57, Tryz.ntmps57
    go_wp2
    go_ret2
    exact ⟨rfl, rfl⟩
set_option maxRecDepth 20000 in
set_option maxHeartbeats 1000000 in
theorem refNumber_yes (n : Nat) (w : World) (hn : n ≤ 1099511627776) :
    Calls Tryz.prog 57 #[.int .i64 (n : Int)] w fun e w' => ∃ sp n' c', e = .returned (.tuple #[.slice sp n' c', .int .i64 0]) ∧ Hid ((numB n).length = n') ∧ OwnB w.heap.size w' sp c' (numB n) ∧ Below w.heap.size w w' := by
  have HLen := hide (show (numB n).length ≤ 2199023255553 by have := (numB_length n).2; omega)
  have o1 := hide (OwnB.empty w w.heap.size (Nat.le_refl _))
  have b1 := hide (show Below w.heap.size w (w.alloc (.cells #[] 5)) from (Below.refl _ _).alloc (Nat.le_refl _) _)
  go_enter Tryz.func57, Tryz.ntmps57
  go_wp2
  go_loopw [0, 4] (fun i v wr => ∃ (sp' : Option Addr) (n' c' : Nat) (l' : List Nat) (m : Nat), m ≤ 1099511627776 ∧ v = .slice sp' n' c' ∧ i = .int .i64 (m : Int) ∧ Hid (l'.length = n') ∧ Hid (OwnB w.heap.size wr sp' c' l') ∧ Hid (l' ++ numB m = numB n) ∧ Hid (Below w.heap.size w wr)) (fun i _ _ => (intOf i).toNat)
  case atStart => exact ⟨_, 0, 0, [], n, hn, rfl, rfl, rfl, unhide o1, by simp [Hid], unhide b1⟩
  case round =>
    obtain ⟨sp', n', c', l', m, hm, rfl, rfl, hl', ho', heq, hbw⟩ := hrel
    have hlen' := hide (show l'.length + 1 ≤ 140737488355328 by
      have h1 := unhide HLen
      rw [← unhide heq, List.length_append] at h1
      have := (numB_length m).1
      omega)
    have hbr := hide (show w.heap.size ≤ wr.heap.size from (unhide hbw).size)
    by_cases h128 : m < 128
    · have hlit := hide (bytesAt_block (l := [m]) (heap_new wr (.cells #[.int .u8 (m : Int)] 5)) (by intro c hc; simp only [List.mem_cons, List.not_mem_nil, or_false] at hc; omega))
      have bA := hide (show Below wr.heap.size wr (wr.alloc (.cells #[.int .u8 (m : Int)] 5)) from (Below.refl _ _).alloc (Nat.le_refl _) _)
      have heq' := hide (show l' ++ [m] = numB n by rw [← unhide heq, numB_small h128])
      have hmod : (m : Int) % 128 = (m : Int) := by omega
      have hdiv : (m : Int) / 128 = 0 := by omega
      go_wp2_with (at_builtin; refine wpList_append8 rfl (.tmp 19) (.tmp 22) rfl w.heap.size sp' n' c' l' rfl (unhide hl') (by exact (unhide ho').later (unhide bA)) (some ⟨wr.heap.size, 0, none⟩) 1 1 rfl [m] rfl (by exact unhide hlit) (fun h => by cases h) (unhide hlen') (by exact Nat.le_trans (unhide hbr) (unhide bA).size) ?_; intro sp2 n2 c2 W2 hn2 ho2 hg2 hb2)
      rw [unhide heq'] at hn2 ho2
      go_ret2
      exact ⟨sp2, n2, c2, rfl, hn2, ho2, ((unhide hbw).trans ((unhide bA).mono (unhide hbr))).trans hb2⟩
    · obtain ⟨q, hq⟩ : ∃ q, q = m % 128 + 128 := ⟨_, rfl⟩
      obtain ⟨d, hd⟩ : ∃ d, d = m / 128 := ⟨_, rfl⟩
      have hlit := hide (bytesAt_block (l := [q]) (heap_new wr (.cells #[.int .u8 (q : Int)] 5)) (by intro c hc; simp only [List.mem_cons, List.not_mem_nil, or_false] at hc; omega))
      have bA := hide (show Below wr.heap.size wr (wr.alloc (.cells #[.int .u8 (q : Int)] 5)) from (Below.refl _ _).alloc (Nat.le_refl _) _)
      have heq' := hide (show l' ++ [q] ++ numB d = numB n by rw [← unhide heq, numB_great h128, hq, hd, List.append_assoc]; rfl)
      have hmod : (m : Int) % 128 + 128 = (q : Int) := by omega
      have hdiv : (m : Int) / 128 = (d : Int) := by omega
      have hd0 : ¬ (d : Int) = 0 := by omega
      have hq256 : (q : Int) < 256 := by omega
      have HD := hide hd
      have HQ := hide hq
      clear hd hq
      go_wp2_with (at_builtin; refine wpList_append8 rfl (.tmp 24) (.tmp 28) rfl w.heap.size sp' n' c' l' rfl (unhide hl') (by exact (unhide ho').later (unhide bA)) (some ⟨wr.heap.size, 0, none⟩) 1 1 rfl [q] rfl (by exact unhide hlit) (fun h => by cases h) (unhide hlen') (by exact Nat.le_trans (unhide hbr) (unhide bA).size) ?_; intro sp2 n2 c2 W2 hn2 ho2 hg2 hb2)
      have hbn := ((unhide hbw).trans ((unhide bA).mono (unhide hbr))).trans hb2
      exact ⟨⟨sp2, n2, c2, l' ++ [q], d, by have := unhide HD; omega, rfl, rfl, hn2, ho2, unhide heq', hbn⟩, by have := unhide HD; simp [intOf]; omega⟩
end Go.Proofs.YtpkpnedcecjlbaaGreatDoor
end
/- Conf: the document's num, text, targets. -/
section
namespace Go.Proofs.YtpkpnedcecjlbaaGreatDoor
open Go.ChangeShapes Go.WideShapes Go.ChangeAt Go.RowKit
set_option linter.unusedVariables false

/-- How a step that adds bytes ends. -/
def AddK (base : Nat) (w : World) (sp : Option Addr) (l : List Nat) (e : Ending) (w' : World) : Prop := ∃ sp' n' c', e = .returned (.slice sp' n' c') ∧ Hid (l.length = n') ∧ OwnB base w' sp' c' l ∧ Grew w sp w' sp'
set_option maxRecDepth 20000 in
set_option maxHeartbeats 4000000 in
theorem rnum8_calls (base : Nat) {w : World} {sp : Option Addr} {n0 c : Nat} {l : List Nat} (hn0 : l.length = n0) (hown : OwnB base w sp c l) (x : Nat) (hx : x ≤ 1099511627776) (hsz : l.length + 6 ≤ 140737488355328) (hbase : base ≤ w.heap.size) :
    Calls Tryz.prog 27 #[.slice sp n0 c, .int .i64 (x : Int)] w (AddK base w sp (l ++ numB x)) := by
  have HO := hide hown
  have HN := hide hn0
  have NC := hide (refNumber_yes x w hx)
  have L6 := hide (numB_len6 x hx)
  unfold AddK
  clear hown hn0
  go_enter Tryz.func27, Tryz.ntmps27
  go_wp2_with fail
  refine (unhide NC).mono ?_
  rintro e V ⟨xp, xn, xc, rfl, hxn, hxo, hxb⟩
  have ho2 := hide ((unhide HO).later hxb)
  have HV := hide hxb
  have XB := hide hxo.bytes
  have X0 := hide hxo.cap0
  have hvs : base ≤ V.heap.size := Nat.le_trans hbase hxb.size
  have hs2 := hide (show l.length + xn ≤ 140737488355328 by rw [← unhide hxn]; have := unhide L6; omega)
  clear hxb hxo hx
  go_wp2_with (at_builtin; refine wpList_append8L rfl (.tmp 12) (.tmp 13) rfl base sp n0 c _ rfl (unhide HN) (unhide ho2) xp xn xc rfl (numB x) (unhide hxn) (unhide XB) (unhide X0) (unhide hs2) hvs ?_; intro sp2 n2 c2 W2 hn2 ho3 hg2 hb2; have HO3 := hide ho3; clear ho3)
  have hbn := hide (Grew.aside (unhide HV) ⟨hg2, hb2⟩)
  go_ret
  exact ⟨sp2, n2, c2, rfl, by first | exact hn2 | exact hide (by simpa using unhide hn2), unhide HO3, unhide hbn⟩
set_option maxRecDepth 20000 in
set_option maxHeartbeats 4000000 in
theorem rtext8_calls (base : Nat) {w : World} {sp : Option Addr} {n0 c : Nat} {l : List Nat} (hn0 : l.length = n0) (hown : OwnB base w sp c l) (s : ByteArray) (hx : s.size ≤ 1000000) (hsz : l.length + 1000006 ≤ 140737488355328) (hbase : base ≤ w.heap.size) :
    Calls Tryz.prog 28 #[.slice sp n0 c, .string s] w (AddK base w sp (l ++ txB s)) := by
  have NC := hide (rnum8_calls base hn0 hown s.size (by omega) (by omega) hbase)
  have HO := hide hown
  unfold AddK at NC ⊢
  clear hown
  go_enter Tryz.func28, Tryz.ntmps28
  go_wp2_with fail
  refine (unhide NC).mono ?_
  rintro e V ⟨s1, m1, c1, rfl, hn1, ho1, hg1⟩
  have hV := hide hg1
  have hvs : base ≤ V.heap.size := Nat.le_trans hbase hg1.grown.size
  have HO1 := hide ho1
  have hne1 := hide (ho1.some_ (by rw [List.length_append]; have := (numB_length s.size).1; omega))
  have hs2 := hide (show m1 + s.size ≤ 140737488355328 by
    rw [← unhide hn1, List.length_append]
    have h2 := numB_len6 s.size (by omega)
    omega)
  clear ho1 hg1 NC
  go_wp2_with (at_builtin; refine wpList_appendS8 rfl (.tmp 9) (.tmp 10) rfl s1 m1 c1 _ rfl (unhide hn1) (unhide HO1) (unhide hne1) s rfl (unhide hs2) hvs ?_; intro sp2 n2 c2 W2 hn2 ho3 hg2 hnn; rw [List.append_assoc, show numB s.size ++ bsT s = txB s from rfl] at hn2 ho3; have HO3 := hide ho3; clear ho3)
  have hbn := hide ((unhide hV).trans hg2)
  go_ret
  exact ⟨sp2, n2, c2, rfl, by first | exact hn2 | exact hide (by simpa using unhide hn2), unhide HO3, unhide hbn⟩
end Go.Proofs.YtpkpnedcecjlbaaGreatDoor
end
/- Conf: the document's targets, as bytes. -/
section
namespace Go.Proofs.YtpkpnedcecjlbaaGreatDoor
open Go.ChangeShapes Go.WideShapes Go.ChangeAt Go.RowKit
set_option linter.unusedVariables false

set_option maxRecDepth 20000 in
set_option maxHeartbeats 8000000 in
theorem rtargets8_calls (base : Nat) {w0 w : World} {a : Option Addr} {ts : List Tgt} (hT : TgsAt w0 a ts) (h0 : Below w0.heap.size w0 w) (hb0 : w0.heap.size ≤ base) {sp : Option Addr} {n0 c : Nat} {l : List Nat} (hn0 : l.length = n0) (hown : OwnB base w sp c l) (m mc : Nat) (hm : ts.length = m)
    (hts : ∀ t ∈ ts, t.1.size ≤ 1000000) (hsz : l.length + 6 + 1000014 * m ≤ 140737488355328) (hm2 : m ≤ 1000) (hbase : base ≤ w.heap.size) :
    Calls Tryz.prog 29 #[.slice sp n0 c, .slice a m mc] w (AddK base w sp (l ++ tgsB ts)) := by
  have HTT := hide hT
  have HM := hide hm
  have H0 := hide h0
  have HNS := hide hts
  have hsF := run_storeF .plain
  have hbits := cbits_call
  have L0 := hide (numB_len6 m (by omega))
  have E0 := hide (show numB m ++ ts.flatMap tgB = tgsB ts by unfold tgsB; rw [hm])
  have CN := hide (rnum8_calls base hn0 hown m (by omega) (by omega) hbase)
  have HO := hide hown
  unfold AddK at CN ⊢
  clear hn0 hm hts hT h0 hown
  go_enter Tryz.func29, Tryz.ntmps29
  go_wp2_with fail
  refine (unhide CN).mono ?_
  rintro e V0 ⟨s0, m0, c0, rfl, hn1, ho1, hg1⟩
  have hV := hide hg1
  have HW0 := hide (below_own hb0 (unhide HO) (unhide hV) hbase (unhide H0))
  have HO1 := hide ho1
  have hvs : base ≤ V0.heap.size := Nat.le_trans hbase (unhide hV).grown.size
  clear ho1 hg1 CN
  go_wp2_with fail
  go_loopw [0, 5, 6, 7] (fun v i _ _ wr => ∃ (j : Nat) (sp' : Option Addr) (n' c' : Nat), j ≤ m ∧ v = .slice sp' n' c' ∧ i = .int .i64 (j : Int) ∧ Hid ((l ++ numB m ++ (ts.take j).flatMap tgB).length = n') ∧ Hid (OwnB base wr sp' c' (l ++ numB m ++ (ts.take j).flatMap tgB)) ∧ Hid (Grew w sp wr sp') ∧ Hid (Below w0.heap.size w0 wr)) (fun _ i _ _ _ => m - (intOf i).toNat)
  case atStart => exact ⟨0, s0, m0, c0, by omega, rfl, rfl, hide (by simpa using unhide hn1), hide (by simpa using unhide HO1), hV, HW0⟩
  case round =>
    obtain ⟨j, sp', n', c', hj, rfl, rfl, hl', ho', hg', hw'⟩ := hrel
    by_cases hjm : j < m
    · as_aux_lemma =>
      have y0 : (0 : Int) ≤ (j : Int) := by omega
      have y1 : (j : Int) < (m : Int) := by omega
      have hj1 : j + 1 ≤ m := by omega
      have hjl : j < ts.length := by rw [unhide HM]; exact hjm
      obtain ⟨b1, o1, rfl, q0, q1⟩ := (unhide HTT).cell j hjl
      have hlt := (unhide HTT).lt _ (List.getElem_mem hjl)
      have hx := unhide HNS ts[j] (List.getElem_mem hjl)
      have FT := hide (flat_take tgB ts j hjl)
      have LJ := hide (show (l ++ numB m ++ (ts.take j).flatMap tgB).length + 1000014 ≤ 140737488355328 by
        have h3 := flat_le tgB 1000014 (ts.take j) (fun x hx => tgB_len x (unhide HNS x (List.mem_of_mem_take hx)))
        have h4 : (ts.take j).length ≤ j := by rw [List.length_take]; omega
        have h5 : 1000014 * (j + 1) ≤ 1000014 * m := Nat.mul_le_mul_left _ (by omega)
        have h6 := unhide L0
        have h7 : 1000014 * (ts.take j).length ≤ 1000014 * j := Nat.mul_le_mul_left _ h4
        rw [List.length_append, List.length_append]; omega)
      generalize ts[j] = t at *
      obtain ⟨s, x⟩ := t
      dsimp only at q0 q1 hx hlt FT
      generalize (ts.take j).flatMap tgB = done at *
      have p0 := cell_later (unhide hw') q0
      have CT := hide (rtext8_calls base (unhide hl') (unhide ho') s hx (by have := unhide LJ; omega) (Nat.le_trans hbase (unhide hg').grown.size))
      unfold AddK at CT
      have Q1 := hide q1
      have hbw := hide (show base ≤ wr.heap.size from Nat.le_trans hbase (unhide hg').grown.size)
      clear q0 q1
      go_wp2_with fail
      refine (unhide CT).mono ?_
      rintro e V2 ⟨s2, m2, c2, rfl, hn2, ho2, hg2⟩
      have hw2 := hide (below_own hb0 (unhide ho') hg2 (unhide hbw) (unhide hw'))
      have hG2 := hide ((unhide hg').trans hg2)
      have HO2 := hide ho2
      have p1 := cell_later (unhide hw2) (unhide Q1)
      have S8 := hide (show (l ++ numB m ++ done ++ txB s).length + 8 ≤ 140737488355328 by
        rw [List.length_append]
        have := txB_len s (by omega)
        have := unhide LJ
        omega)
      have FT2 := hide (show l ++ numB m ++ done ++ txB s ++ wtBy x = l ++ numB m ++ (ts.take (j + 1)).flatMap tgB by
        rw [unhide FT]
        simp [tgB, List.append_assoc])
      generalize l ++ numB m ++ done ++ txB s = L at *
      obtain ⟨wp, hwp⟩ : ∃ wp, wp = wr := ⟨_, rfl⟩
      subst hwp
      clear ho2 hg2 CT p0 hl' ho' hg' hw' LJ FT
      go_wp2_with fail
      go_loopw [0, 7] (fun v i wr => ∃ (k : Nat) (sp' : Option Addr) (n' c' : Nat), k ≤ 8 ∧ v = .slice sp' n' c' ∧ i = .int .i64 (k : Int) ∧ Hid ((L ++ (wtBy x).take k).length = n') ∧ Hid (OwnB base wr sp' c' (L ++ (wtBy x).take k)) ∧ Hid (Grew w sp wr sp') ∧ Hid (Below w0.heap.size w0 wr)) (fun _ i _ => 8 - (intOf i).toNat)
      case atStart => exact ⟨0, s2, m2, c2, by omega, rfl, rfl, hide (by simpa using unhide hn2), hide (by simpa using unhide HO2), hG2, hw2⟩
      case round =>
        obtain ⟨k, sp', n', c', hk, rfl, rfl, hl', ho', hg', hw'⟩ := hrel
        by_cases hk8 : k < 8
        · obtain ⟨sh, hs⟩ : ∃ sh : Nat, sh = 56 - 8 * k := ⟨_, rfl⟩
          have z1 : (k : Int) < 8 := by omega
          have hmul : IntKind.i64.wrap (8 * (k : Int)) = 8 * (k : Int) := by rw [IntKind.wrap_i64]; omega
          have hsub : IntKind.i64.wrap (56 - 8 * (k : Int)) = (sh : Int) := by rw [IntKind.wrap_i64]; omega
          have hcv : IntKind.u64.wrap (sh : Int) = (sh : Int) := by rw [IntKind.wrap_u64]; omega
          have y2 : sh ≤ 64 := by omega
          have hmin : min sh 64 = sh := by omega
          have hby := shr_byte x sh
          have FK := hide (wtBy_take x k hk8)
          rw [← hs] at FK
          have hw8 : IntKind.u8.wrap ((x : Int) / 2 ^ sh) = ((x / 2 ^ sh % 256 : Nat) : Int) := by rw [← hby, IntKind.wrap_u8]
          have hq2 : x / 2 ^ sh % 256 < 256 := Nat.mod_lt _ (by decide)
          generalize hq : x / 2 ^ sh % 256 = q at *
          have hlit := hide (bytesAt_block (l := [q]) (heap_new wr (.cells #[.int .u8 (q : Int)] 5)) (by intro c hc; simp only [List.mem_cons, List.not_mem_nil, or_false] at hc; omega))
          have bA := hide (show Below wr.heap.size wr (wr.alloc (.cells #[.int .u8 (q : Int)] 5)) from (Below.refl _ _).alloc (Nat.le_refl _) _)
          have hbr : base ≤ wr.heap.size := Nat.le_trans hbase (unhide hg').grown.size
          have hs2 := hide (show (L ++ (wtBy x).take k).length + 1 ≤ 140737488355328 by
            rw [List.length_append]
            have : ((wtBy x).take k).length ≤ 7 := by rw [List.length_take]; omega
            have := unhide S8
            omega)
          have hk1 : k + 1 ≤ 8 := by omega
          clear hs hq hk8 hby
          go_wp2_with (at_builtin; refine wpList_append8L rfl (.tmp 35) (.tmp 43) rfl base sp' n' c' _ rfl (unhide hl') (by exact (unhide ho').later (unhide bA)) (some ⟨wr.heap.size, 0, none⟩) 1 1 rfl [q] rfl (by exact unhide hlit) (fun h => by cases h) (unhide hs2) (Nat.le_trans hbr (unhide bA).size) ?_; intro sp2 n2 c2 W2 hn2 ho2 hg2 hb2; rw [List.append_assoc, ← unhide FK] at hn2 ho2; have HO2 := hide ho2; have HG2 := hide hg2; have HB2 := hide hb2; clear ho2 hg2 hb2)
          have hga := hide (Grew.aside (unhide bA) ⟨unhide HG2, unhide HB2⟩)
          have hbn := hide ((unhide hg').trans (unhide hga))
          have hw3 := hide (below_own hb0 (unhide ho') (unhide hga) hbr (unhide hw'))
          exact ⟨⟨k + 1, sp2, n2, c2, hk1, rfl, by go_num, by first | exact hn2 | exact hide (by rw [List.length_append]; exact unhide hn2), HO2, hbn, hw3⟩, by simp [intOf]; omega⟩
        · have z1 : ¬ (k : Int) < 8 := by omega
          have E := hide (show (wtBy x).take k = wtBy x from List.take_of_length_le (by rw [wtBy_len]; omega))
          rw [unhide E, unhide FT2] at hl' ho'
          clear FT2 hn2 HO2 hG2 hw2
          go_wp2
          exact ⟨⟨j + 1, sp', n', c', hj1, rfl, by go_num, by first | exact hl' | exact hide (by simpa using unhide hl'), ho', hg', hw'⟩, by simp [intOf]; omega⟩
    · as_aux_lemma =>
      have hjj : ¬ (j : Int) < (m : Int) := by omega
      have E := hide (show numB m ++ (ts.take j).flatMap tgB = tgsB ts by rw [List.take_of_length_le (by rw [unhide HM]; omega)]; exact unhide E0)
      rw [List.append_assoc, unhide E] at hl' ho'
      go_wp2
      go_ret
      exact ⟨sp', n', c', rfl, by first | exact hl' | exact hide (by simpa using unhide hl'), unhide ho', unhide hg'⟩
end Go.Proofs.YtpkpnedcecjlbaaGreatDoor
end
