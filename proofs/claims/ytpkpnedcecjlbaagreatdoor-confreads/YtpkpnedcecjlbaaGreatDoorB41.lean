/- Conf: the document's Check: act 4. -/
import Derived.Test.YtpkpnedcecjlbaaGreatDoorB40
import Derived.Test.YtpkpnedcecjlbaaGreatDoorB03
section
namespace Go.Proofs.YtpkpnedcecjlbaaGreatDoor
open Go.ChangeShapes Go.WideShapes Go.ChangeAt Go.RowKit
set_option linter.unusedVariables false

set_option maxRecDepth 20000 in
set_option maxHeartbeats 8000000 in
theorem checkR4_calls (c : Cmd) (a : Option Addr) (tc : Nat) (w : World) (h : CmdAt w c a tc) (hB : numsOk c = true) (ha : c.act = 4) : Calls Tryz.prog 12 #[cmdVal c a tc] w fun e w' => e = .returned (.int .i64 (checkC c : Int)) ∧ Below w.heap.size w w' := by
  have bX := hide (show Below w.heap.size w (w.alloc (.cells (cmdRow c a tc) 25)) from (Below.refl _ _).alloc (Nat.le_refl _) _)
  have X1 := hide (heap_new w (.cells (cmdRow c a tc) 25))
  have RT := hide (rightR_calls (h.tgs.later (unhide bX)) c.ts.length tc rfl h.tn.1 h.tz)
  have h47 : (140737488355328 : Nat) ≤ maxLen := by simp [maxLen]
  have NP := hide (fun W => poolNameR_calls c.pool (Nat.le_trans h.tl h47) W)
  have HP := hide (fun W => hostR8_calls c.host (Nat.le_trans h.th h47) W)
  have PP := hide (fun W => prefixR_calls c.pre (Nat.le_trans h.tp h47) W)
  have KK := hide (chk4 hB ha)
  have hn := h.tn.1
  have z1 := h.th
  have z2 := h.tp
  have z3 := h.tl
  have e4 := emp_eq c.host
  have e5 := emp_eq c.pre
  have e6 := emp_eq c.pool
  have nl := nil_toList
  simp only [maxLen] at hn
  obtain ⟨_, ⟨b1, b2⟩, hcs, ⟨b3, b4⟩⟩ := nums_parts hB
  clear hB
  clear h h47
  unfold cmdVal cmdRow at *
  generalize checkC c = R at *
  generalize rtN c.ts = rn at *
  generalize emp c.host = x4 at *
  generalize emp c.pre = x5 at *
  generalize emp c.pool = x6 at *
  generalize nameT c.pool = y1 at *
  generalize hostT c.host = y2 at *
  generalize prefT c.pre = y3 at *
  obtain ⟨act, cli, seq, exp, host, pre, pool, ts⟩ := c
  dsimp only at *
  subst ha
  generalize ts.length = tn at *
  have k0 := fcell0 (unhide X1) 0 (.int .i64 4) rfl
  have k1 := fcell0 (unhide X1) 1 (.int .i64 cli) rfl
  have k2 := fcell0 (unhide X1) 2 (.int .i64 seq) rfl
  have k3 := fcell0 (unhide X1) 3 (.int .i64 exp) rfl
  have k4 := fcell0 (unhide X1) 4 (.string host) rfl
  have k5 := fcell0 (unhide X1) 5 (.string pre) rfl
  have k6 := fcell0 (unhide X1) 6 (.string pool) rfl
  have k7 := fcell0 (unhide X1) 7 (.slice a tn tc) rfl
  have n3 : ¬ cli < 0 := by omega
  have n4 : ¬ 32 < cli := by omega
  have n5 : ¬ exp < -1 := by omega
  have n6 : ¬ 1099511627775 < exp := by omega
  rcases hcs with ⟨rfl, rfl⟩ | ⟨c1, c2, c3⟩
  · skip
    by_cases hn0 : tn = 0
    · subst hn0
      cases x6 with
      | false =>
        as_aux_lemma =>
        have HR : R = 2 := (unhide KK)
        subst HR
        clear KK X1
        go_enter Tryz.func12, Tryz.ntmps12
        go_wp2
        go_ret
        exact ⟨by first | rfl | (simp; done), unhide bX⟩
      | true =>
        cases y2 with
        | false =>
          as_aux_lemma =>
          have HR : R = 14 := (unhide KK)
          subst HR
          clear KK X1
          go_enter Tryz.func12, Tryz.ntmps12
          go_wp2_with fail
          refine (unhide HP _).mono ?_
          rintro e w' ⟨rfl, rfl⟩
          go_wp2
          go_ret
          exact ⟨by first | rfl | (simp; done), unhide bX⟩
        | true =>
          cases y3 with
          | false =>
            as_aux_lemma =>
            have HR : R = 14 := (unhide KK)
            subst HR
            clear KK X1
            go_enter Tryz.func12, Tryz.ntmps12
            go_wp2_with fail
            refine (unhide HP _).mono ?_
            rintro e w' ⟨rfl, rfl⟩
            go_wp2_with fail
            refine (unhide PP _).mono ?_
            rintro e w' ⟨rfl, rfl⟩
            go_wp2
            go_ret
            exact ⟨by first | rfl | (simp; done), unhide bX⟩
          | true =>
            as_aux_lemma =>
            have HR : R = rn := (unhide KK)
            subst HR
            clear KK X1
            go_enter Tryz.func12, Tryz.ntmps12
            go_wp2_with fail
            refine (unhide HP _).mono ?_
            rintro e w' ⟨rfl, rfl⟩
            go_wp2_with fail
            refine (unhide PP _).mono ?_
            rintro e w' ⟨rfl, rfl⟩
            go_wp2_with fail
            refine (unhide RT).mono ?_
            rintro e w' ⟨rfl, rfl⟩
            go_wp2
            go_ret
            exact ⟨by first | rfl | (simp; done), unhide bX⟩
    · have hp : (0 : Int) < (tn : Int) := by omega
      rw [show decide (tn = 0) = false from decide_eq_false hn0, Bool.and_false] at KK
      as_aux_lemma =>
      have HR : R = 2 := (unhide KK)
      subst HR
      clear KK X1
      go_enter Tryz.func12, Tryz.ntmps12
      go_wp2
      go_ret
      exact ⟨by first | rfl | (simp; done), unhide bX⟩
  · have j7 : (cli == 0) = false := by simp; omega
    have j7' : ¬ cli = 0 := by omega
    have j8 : ¬ seq < 1 := by omega
    have j9 : ¬ 1099511627776 < seq := by omega
    clear b1 b2 b3 b4 c2 c3
    by_cases hn0 : tn = 0
    · subst hn0
      cases x6 with
      | false =>
        as_aux_lemma =>
        have HR : R = 2 := (unhide KK)
        subst HR
        clear KK X1
        go_enter Tryz.func12, Tryz.ntmps12
        go_wp2
        go_ret
        exact ⟨by first | rfl | (simp; done), unhide bX⟩
      | true =>
        cases y2 with
        | false =>
          as_aux_lemma =>
          have HR : R = 14 := (unhide KK)
          subst HR
          clear KK X1
          go_enter Tryz.func12, Tryz.ntmps12
          go_wp2_with fail
          refine (unhide HP _).mono ?_
          rintro e w' ⟨rfl, rfl⟩
          go_wp2
          go_ret
          exact ⟨by first | rfl | (simp; done), unhide bX⟩
        | true =>
          cases y3 with
          | false =>
            as_aux_lemma =>
            have HR : R = 14 := (unhide KK)
            subst HR
            clear KK X1
            go_enter Tryz.func12, Tryz.ntmps12
            go_wp2_with fail
            refine (unhide HP _).mono ?_
            rintro e w' ⟨rfl, rfl⟩
            go_wp2_with fail
            refine (unhide PP _).mono ?_
            rintro e w' ⟨rfl, rfl⟩
            go_wp2
            go_ret
            exact ⟨by first | rfl | (simp; done), unhide bX⟩
          | true =>
            as_aux_lemma =>
            have HR : R = rn := (unhide KK)
            subst HR
            clear KK X1
            go_enter Tryz.func12, Tryz.ntmps12
            go_wp2_with fail
            refine (unhide HP _).mono ?_
            rintro e w' ⟨rfl, rfl⟩
            go_wp2_with fail
            refine (unhide PP _).mono ?_
            rintro e w' ⟨rfl, rfl⟩
            go_wp2_with fail
            refine (unhide RT).mono ?_
            rintro e w' ⟨rfl, rfl⟩
            go_wp2
            go_ret
            exact ⟨by first | rfl | (simp; done), unhide bX⟩
    · have hp : (0 : Int) < (tn : Int) := by omega
      rw [show decide (tn = 0) = false from decide_eq_false hn0, Bool.and_false] at KK
      as_aux_lemma =>
      have HR : R = 2 := (unhide KK)
      subst HR
      clear KK X1
      go_enter Tryz.func12, Tryz.ntmps12
      go_wp2
      go_ret
      exact ⟨by first | rfl | (simp; done), unhide bX⟩
end Go.Proofs.YtpkpnedcecjlbaaGreatDoor
end
/- Conf: the document's Check. -/
section
namespace Go.Proofs.YtpkpnedcecjlbaaGreatDoor
open Go.ChangeShapes Go.WideShapes Go.ChangeAt Go.RowKit
set_option linter.unusedVariables false

set_option maxRecDepth 20000 in
set_option maxHeartbeats 8000000 in
theorem checkR0_calls (c : Cmd) (a : Option Addr) (tc : Nat) (w : World) (h : CmdAt w c a tc) (hB : numsOk c = false) : Calls Tryz.prog 12 #[cmdVal c a tc] w fun e w' => e = .returned (.int .i64 (checkC c : Int)) ∧ Below w.heap.size w w' := by
  have bX := hide (show Below w.heap.size w (w.alloc (.cells (cmdRow c a tc) 25)) from (Below.refl _ _).alloc (Nat.le_refl _) _)
  have X1 := hide (heap_new w (.cells (cmdRow c a tc) 25))
  have RT := hide (rightR_calls (h.tgs.later (unhide bX)) c.ts.length tc rfl h.tn.1 h.tz)
  have h47 : (140737488355328 : Nat) ≤ maxLen := by simp [maxLen]
  have NP := hide (fun W => poolNameR_calls c.pool (Nat.le_trans h.tl h47) W)
  have HP := hide (fun W => hostR8_calls c.host (Nat.le_trans h.th h47) W)
  have PP := hide (fun W => prefixR_calls c.pre (Nat.le_trans h.tp h47) W)
  have HR : checkC c = 2 := chk_no hB
  have hn := h.tn.1
  have z1 := h.th
  have z2 := h.tp
  have z3 := h.tl
  have e4 := emp_eq c.host
  have e5 := emp_eq c.pre
  have e6 := emp_eq c.pool
  have nl := nil_toList
  simp only [maxLen] at hn
  have NE : numsOk c = (decide (1 ≤ c.act ∧ c.act ≤ 4) && decide (0 ≤ c.cli ∧ c.cli ≤ 32) && (if c.cli = 0 then decide (c.seq = 0) else decide (1 ≤ c.seq ∧ c.seq ≤ 1099511627776)) && decide (-1 ≤ c.exp ∧ c.exp ≤ 1099511627775)) := rfl
  rw [hB] at NE
  replace NE := hide NE
  clear hB RT NP HP PP
  clear h h47
  unfold cmdVal cmdRow at *
  generalize checkC c = R at *
  generalize rtN c.ts = rn at *
  generalize emp c.host = x4 at *
  generalize emp c.pre = x5 at *
  generalize emp c.pool = x6 at *
  generalize nameT c.pool = y1 at *
  generalize hostT c.host = y2 at *
  generalize prefT c.pre = y3 at *
  obtain ⟨act, cli, seq, exp, host, pre, pool, ts⟩ := c
  dsimp only at *
  generalize ts.length = tn at *
  have k0 := fcell0 (unhide X1) 0 (.int .i64 act) rfl
  have k1 := fcell0 (unhide X1) 1 (.int .i64 cli) rfl
  have k2 := fcell0 (unhide X1) 2 (.int .i64 seq) rfl
  have k3 := fcell0 (unhide X1) 3 (.int .i64 exp) rfl
  have k4 := fcell0 (unhide X1) 4 (.string host) rfl
  have k5 := fcell0 (unhide X1) 5 (.string pre) rfl
  have k6 := fcell0 (unhide X1) 6 (.string pool) rfl
  have k7 := fcell0 (unhide X1) 7 (.slice a tn tc) rfl
  by_cases g1 : act < 1
  · clear NE
    as_aux_lemma =>
    subst HR
    clear X1
    go_enter Tryz.func12, Tryz.ntmps12
    go_wp2
    go_ret
    exact ⟨rfl, unhide bX⟩
  skip
  by_cases g2 : 4 < act
  · clear NE
    as_aux_lemma =>
    subst HR
    clear X1
    go_enter Tryz.func12, Tryz.ntmps12
    go_wp2
    go_ret
    exact ⟨rfl, unhide bX⟩
  skip
  by_cases g3 : cli < 0
  · clear NE
    as_aux_lemma =>
    subst HR
    clear X1
    go_enter Tryz.func12, Tryz.ntmps12
    go_wp2
    go_ret
    exact ⟨rfl, unhide bX⟩
  skip
  by_cases g4 : 32 < cli
  · clear NE
    as_aux_lemma =>
    subst HR
    clear X1
    go_enter Tryz.func12, Tryz.ntmps12
    go_wp2
    go_ret
    exact ⟨rfl, unhide bX⟩
  skip
  by_cases g5 : exp < -1
  · clear NE
    as_aux_lemma =>
    subst HR
    clear X1
    go_enter Tryz.func12, Tryz.ntmps12
    go_wp2
    go_ret
    exact ⟨rfl, unhide bX⟩
  skip
  by_cases g6 : 1099511627775 < exp
  · clear NE
    as_aux_lemma =>
    subst HR
    clear X1
    go_enter Tryz.func12, Tryz.ntmps12
    go_wp2
    go_ret
    exact ⟨rfl, unhide bX⟩
  skip
  by_cases g7 : cli = 0
  · subst g7
    by_cases g8 : seq = 0
    · exfalso
      have hb := unhide NE
      rw [decide_eq_true (show 1 ≤ act ∧ act ≤ 4 by omega), decide_eq_true (show (0 : Int) ≤ 0 ∧ (0 : Int) ≤ 32 by omega), if_pos rfl, decide_eq_true (show seq = 0 from g8), decide_eq_true (show -1 ≤ exp ∧ exp ≤ 1099511627775 by omega)] at hb
      cases hb
    · have j8 : (seq == 0) = false := by simp [g8]
      have j8' : (seq != 0) = true := by simp [g8]
      clear NE
      as_aux_lemma =>
      subst HR
      clear X1
      go_enter Tryz.func12, Tryz.ntmps12
      go_wp2
      go_ret
      exact ⟨rfl, unhide bX⟩
  · have j7 : (cli == 0) = false := by simp [g7]
    have g9 : 0 < cli := by omega
    by_cases g10 : seq < 1
    · clear NE
      as_aux_lemma =>
      subst HR
      clear X1
      go_enter Tryz.func12, Tryz.ntmps12
      go_wp2
      go_ret
      exact ⟨rfl, unhide bX⟩
    by_cases g11 : 1099511627776 < seq
    · clear NE
      as_aux_lemma =>
      subst HR
      clear X1
      go_enter Tryz.func12, Tryz.ntmps12
      go_wp2
      go_ret
      exact ⟨rfl, unhide bX⟩
    exfalso
    have hb := unhide NE
    rw [decide_eq_true (show 1 ≤ act ∧ act ≤ 4 by omega), decide_eq_true (show 0 ≤ cli ∧ cli ≤ 32 by omega), if_neg g7, decide_eq_true (show 1 ≤ seq ∧ seq ≤ 1099511627776 by omega), decide_eq_true (show -1 ≤ exp ∧ exp ≤ 1099511627775 by omega)] at hb
    cases hb
theorem checkR_calls (c : Cmd) (a : Option Addr) (tc : Nat) (w : World) (h : CmdAt w c a tc) : Calls Tryz.prog 12 #[cmdVal c a tc] w fun e w' => e = .returned (.int .i64 (checkC c : Int)) ∧ Below w.heap.size w w' := by
  cases hB : numsOk c with
  | false => exact checkR0_calls c a tc w h hB
  | true =>
    have hp := (nums_parts hB).1
    have ha : c.act = 1 ∨ c.act = 2 ∨ c.act = 3 ∨ c.act = 4 := by omega
    rcases ha with ha | ha | ha | ha
    · exact checkR1_calls c a tc w h hB ha
    · exact checkR2_calls c a tc w h hB ha
    · exact checkR3_calls c a tc w h hB ha
    · exact checkR4_calls c a tc w h hB ha
end Go.Proofs.YtpkpnedcecjlbaaGreatDoor
end
/- The contracts of the document's answers of layer 2: Number. -/
section
namespace Go.Proofs.YtpkpnedcecjlbaaGreatDoor
open Go.ChangeShapes Go.WideShapes Go.ChangeAt Go.RowKit

theorem refNumber_no (n : Int) (w : World) (h : ¬ (0 ≤ n ∧ n ≤ 1099511627776)) :
    Calls Tryz.prog 57 #[.int .i64 n] w fun e w' => e = .returned (.tuple #[.slice none 0 0, .int .i64 2]) ∧ w' = w := by
  by_cases h0 : 0 ≤ n
  · have h1 : ¬ n ≤ 1099511627776 := fun h1 => h ⟨h0, h1⟩
    clear h
    go_enter Tryz.func57, Tryz.ntmps57
    go_wp2
    go_ret2
    exact ⟨rfl, rfl⟩
  · clear h
    go_enter Tryz.func57, Tryz.ntmps57
    go_wp2
    go_ret2
    exact ⟨rfl, rfl⟩
set_option maxRecDepth 20000 in
set_option maxHeartbeats 1000000 in
theorem refNumber_yes (n : Nat) (w : World) (hn : n ≤ 1099511627776) :
    Calls Tryz.prog 57 #[.int .i64 (n : Int)] w fun e w' => ∃ sp n' c', e = .returned (.tuple #[.slice sp n' c', .int .i64 0]) ∧ Hid ((numB n).length = n') ∧ OwnB w.heap.size w' sp c' (numB n) ∧ Below w.heap.size w w' := by
  have HLen := hide (show (numB n).length ≤ 2199023255553 by have := (numB_length n).2; omega)
  have o1 := hide (OwnB.empty w w.heap.size (Nat.le_refl _))
  have b1 := hide (show Below w.heap.size w (w.alloc (.cells #[] 5)) from (Below.refl _ _).alloc (Nat.le_refl _) _)
  go_enter Tryz.func57, Tryz.ntmps57
  go_wp2
  go_loopw [0, 4] (fun i v wr => ∃ (sp' : Option Addr) (n' c' : Nat) (l' : List Nat) (m : Nat), m ≤ 1099511627776 ∧ v = .slice sp' n' c' ∧ i = .int .i64 (m : Int) ∧ Hid (l'.length = n') ∧ Hid (OwnB w.heap.size wr sp' c' l') ∧ Hid (l' ++ numB m = numB n) ∧ Hid (Below w.heap.size w wr)) (fun i _ _ => (intOf i).toNat)
  case atStart => exact ⟨_, 0, 0, [], n, hn, rfl, rfl, rfl, unhide o1, by simp [Hid], unhide b1⟩
  case round =>
    obtain ⟨sp', n', c', l', m, hm, rfl, rfl, hl', ho', heq, hbw⟩ := hrel
    have hlen' := hide (show l'.length + 1 ≤ 140737488355328 by
      have h1 := unhide HLen
      rw [← unhide heq, List.length_append] at h1
      have := (numB_length m).1
      omega)
    have hbr := hide (show w.heap.size ≤ wr.heap.size from (unhide hbw).size)
    by_cases h128 : m < 128
    · have hlit := hide (bytesAt_block (l := [m]) (heap_new wr (.cells #[.int .u8 (m : Int)] 5)) (by intro c hc; simp only [List.mem_cons, List.not_mem_nil, or_false] at hc; omega))
      have bA := hide (show Below wr.heap.size wr (wr.alloc (.cells #[.int .u8 (m : Int)] 5)) from (Below.refl _ _).alloc (Nat.le_refl _) _)
      have heq' := hide (show l' ++ [m] = numB n by rw [← unhide heq, numB_small h128])
      have hmod : (m : Int) % 128 = (m : Int) := by omega
      have hdiv : (m : Int) / 128 = 0 := by omega
      go_wp2_with (at_builtin; refine wpList_append8 rfl (.tmp 19) (.tmp 22) rfl w.heap.size sp' n' c' l' rfl (unhide hl') (by exact (unhide ho').later (unhide bA)) (some ⟨wr.heap.size, 0, none⟩) 1 1 rfl [m] rfl (by exact unhide hlit) (fun h => by cases h) (unhide hlen') (by exact Nat.le_trans (unhide hbr) (unhide bA).size) ?_; intro sp2 n2 c2 W2 hn2 ho2 hg2 hb2)
      rw [unhide heq'] at hn2 ho2
      go_ret2
      exact ⟨sp2, n2, c2, rfl, hn2, ho2, ((unhide hbw).trans ((unhide bA).mono (unhide hbr))).trans hb2⟩
    · obtain ⟨q, hq⟩ : ∃ q, q = m % 128 + 128 := ⟨_, rfl⟩
      obtain ⟨d, hd⟩ : ∃ d, d = m / 128 := ⟨_, rfl⟩
      have hlit := hide (bytesAt_block (l := [q]) (heap_new wr (.cells #[.int .u8 (q : Int)] 5)) (by intro c hc; simp only [List.mem_cons, List.not_mem_nil, or_false] at hc; omega))
      have bA := hide (show Below wr.heap.size wr (wr.alloc (.cells #[.int .u8 (q : Int)] 5)) from (Below.refl _ _).alloc (Nat.le_refl _) _)
      have heq' := hide (show l' ++ [q] ++ numB d = numB n by rw [← unhide heq, numB_great h128, hq, hd, List.append_assoc]; rfl)
      have hmod : (m : Int) % 128 + 128 = (q : Int) := by omega
      have hdiv : (m : Int) / 128 = (d : Int) := by omega
      have hd0 : ¬ (d : Int) = 0 := by omega
      have hq256 : (q : Int) < 256 := by omega
      have HD := hide hd
      have HQ := hide hq
      clear hd hq
      go_wp2_with (at_builtin; refine wpList_append8 rfl (.tmp 24) (.tmp 28) rfl w.heap.size sp' n' c' l' rfl (unhide hl') (by exact (unhide ho').later (unhide bA)) (some ⟨wr.heap.size, 0, none⟩) 1 1 rfl [q] rfl (by exact unhide hlit) (fun h => by cases h) (unhide hlen') (by exact Nat.le_trans (unhide hbr) (unhide bA).size) ?_; intro sp2 n2 c2 W2 hn2 ho2 hg2 hb2)
      have hbn := ((unhide hbw).trans ((unhide bA).mono (unhide hbr))).trans hb2
      exact ⟨⟨sp2, n2, c2, l' ++ [q], d, by have := unhide HD; omega, rfl, rfl, hn2, ho2, unhide heq', hbn⟩, by have := unhide HD; simp [intOf]; omega⟩
end Go.Proofs.YtpkpnedcecjlbaaGreatDoor
end
