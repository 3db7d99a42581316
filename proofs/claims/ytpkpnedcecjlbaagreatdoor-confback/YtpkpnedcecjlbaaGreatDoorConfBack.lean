/- Proved: a command that is put is got as it was, and no other bytes are taken for one; for every command and bytes; no condition beyond the library's variable that is read (lz_of). open_cmdS -/
import Derived.Test.YtpkpnedcecjlbaaGreatDoorB33
import Derived.Test.YtpkpnedcecjlbaaGreatDoorB35
import Derived.Test.YtpkpnedcecjlbaaGreatDoorB14
import Derived.Test.YtpkpnedcecjlbaaGreatDoorTie
import Derived.Test.YtpkpnedcecjlbaaGreatDoorCards
import Derived.Lay
import Derived.MakeChecks
import Derived.SevenTiedAt
import Derived.Stop.Joined
namespace Go.Proofs.YtpkpnedcecjlbaaGreatDoor.confBack
open Go.ChangeShapes Go.WideShapes Go.ChangeAt Go.RowKit
set_option linter.unusedVariables false

theorem own : ownKnob Tryz.prog.godebug = none := by kernel_rfl
theorem laidOut : laidOutB Tryz.prog = true := by kernel_rfl

set_option maxRecDepth 20000 in
set_option maxHeartbeats 8000000 in
theorem walk (c : Cmd) (q : Option Addr × Nat) (a1 : Option Addr) (c1 : Nat) (l1 : List Nat) (w : World) (hc : CmdAt w c q.1 q.2) (hc1 : l1.length ≤ c1) (hm1 : c1 ≤ 140737488355328) (hb1 : BytesAt w a1 l1) (hz1 : a1 = none → c1 = 0) (hLz : Lz w) :
    Calls Tryz.prog 5 #[cmdVal c q.1 q.2, .slice a1 l1.length c1] w fun e w' => e = .returned (.bool true) ∧ Below w.heap.size w w' := by
  obtain ⟨a, tc⟩ := q
  dsimp only at hc
  have MX := hide (fun (W : World) (hb : Below w.heap.size w W) => Mx.later hLz hb)
  have bX := hide (show Below w.heap.size w (w.alloc (.cells (cmdRow c a tc) 25)) from (Below.refl _ _).alloc (Nat.le_refl _) _)
  have X1 := hide (heap_new w (.cells (cmdRow c a tc) 25))
  have PC := hide (kput_calls c a tc _ (hc.later (unhide bX)) (unhide MX _ (unhide bX)))
  have HT := hide hc.tgs
  have HN := hide hc.tn.1
  have HZ := hide (show c.host.size ≤ 140737488355328 ∧ c.pre.size ≤ 140737488355328 ∧ c.pool.size ≤ 140737488355328 from ⟨hc.th, hc.tp, hc.tl⟩)
  have GC := hide (fun (W : World) (hb : Below w.heap.size w W) => kget_calls a1 c1 l1 W hc1 (by simp only [maxLen]; omega) (hb1.later hb) hz1 (unhide MX W hb))
  have BB := hide hb1
  have GP := hide (fun (e : checkC c = 0) => get_put e hc.tgs.lt)
  have PV := hide (show putV c = if checkC c = 0 then cmdB c else [] from rfl)
  unfold PutKE at PC
  unfold GetKE at GC
  have SM := hide (fun (W : World) (hb : Below w.heap.size w W) (a' : Option Addr) (t' : Nat) (h2 : TgsAt W a' c.ts) => sameM_calls (c := c) (a := a') (t := t') (a' := a) (t' := tc) h2 ((unhide HT).later hb) (unhide HN) (unhide HZ))
  clear hc hc1 hm1 hb1 hz1 hLz
  by_cases hck : checkC c = 0
  · as_aux_lemma =>
    have GG := hide (unhide GP hck)
    rw [if_pos hck] at PV
    rw [← unhide PV] at GG
    rw [hck] at PC
    rw [show ((0 : Nat) : Int) = 0 from rfl] at PC
    clear GP hck PV
    generalize putV c = L at *
    unfold cmdVal cmdRow at *
    obtain ⟨act, cli, seq, exp, host, pre, pool, ts⟩ := c
    dsimp only at *
    go_enter Tryz.func5, Tryz.ntmps5
    go_wp2_with fail
    generalize (w.alloc (.cells #[.int .i64 act, .int .i64 cli, .int .i64 seq, .int .i64 exp, .string host, .string pre, .string pool, .slice a ts.length tc] 25)) = V0 at *
    refine (unhide PC).mono ?_
    rintro e V1 ⟨sp, n, cc, rfl, hn, ho, v1⟩
    have B1 := hide ((unhide bX).trans (v1.mono (unhide bX).size))
    have XB := hide (later_block v1 (unhide X1))
    have hcap := ho.cap
    have OB := hide ho.bytes
    have O0 := hide ho.cap0
    subst hn
    have G1 := hide (kget_calls sp cc L V1 hcap.1 hcap.2 (unhide OB) (unhide O0) (unhide MX V1 (unhide B1)))
    unfold GetKE at G1
    rw [unhide GG] at G1
    dsimp only at G1
    rw [show ((0 : Nat) : Int) = 0 from rfl] at G1
    clear ho v1 PC hcap OB O0 GG X1
    go_wp2_with fail
    refine (unhide G1).mono ?_
    rintro e V2 ⟨tb, tn, rfl, ca, _, v2⟩
    have TA := hide ca.tgs
    dsimp only at TA
    have B2 := hide ((unhide B1).trans (v2.mono (unhide B1).size))
    have XC := hide (later_block v2 (unhide XB))
    unfold cmdVal
    dsimp only
    have bE := hide (show Below V2.heap.size V2 (V2.alloc (.cells #[.int .i64 act, .int .i64 cli, .int .i64 seq, .int .i64 exp, .string host, .string pre, .string pool, .slice tb ts.length tn] 25)) from (Below.refl _ _).alloc (Nat.le_refl _) _)
    have XE := hide (heap_new V2 (.cells #[.int .i64 act, .int .i64 cli, .int .i64 seq, .int .i64 exp, .string host, .string pre, .string pool, .slice tb ts.length tn] 25))
    have BE := hide ((unhide B2).trans ((unhide bE).mono (unhide B2).size))
    have XF := hide (later_block (unhide bE) (unhide XC))
    have SC := hide (unhide SM _ (unhide BE) tb tn ((unhide TA).later (unhide bE)))
    have d0 := fcell0 (unhide XE) 0 (.int .i64 act) rfl
    have d1 := fcell0 (unhide XE) 1 (.int .i64 cli) rfl
    have d2 := fcell0 (unhide XE) 2 (.int .i64 seq) rfl
    have d3 := fcell0 (unhide XE) 3 (.int .i64 exp) rfl
    have d4 := fcell0 (unhide XE) 4 (.string host) rfl
    have d5 := fcell0 (unhide XE) 5 (.string pre) rfl
    have d6 := fcell0 (unhide XE) 6 (.string pool) rfl
    have d7 := fcell0 (unhide XE) 7 (.slice tb ts.length tn) rfl
    have f0 := fcell0 (unhide XF) 0 (.int .i64 act) rfl
    have f1 := fcell0 (unhide XF) 1 (.int .i64 cli) rfl
    have f2 := fcell0 (unhide XF) 2 (.int .i64 seq) rfl
    have f3 := fcell0 (unhide XF) 3 (.int .i64 exp) rfl
    have f4 := fcell0 (unhide XF) 4 (.string host) rfl
    have f5 := fcell0 (unhide XF) 5 (.string pre) rfl
    have f6 := fcell0 (unhide XF) 6 (.string pool) rfl
    have f7 := fcell0 (unhide XF) 7 (.slice a ts.length tc) rfl
    clear ca v2 G1 XB XC SM TA B2
    go_wp2_with fail
    generalize (V2.alloc (.cells #[.int .i64 act, .int .i64 cli, .int .i64 seq, .int .i64 exp, .string host, .string pre, .string pool, .slice tb ts.length tn] 25)) = VE at *
    refine (unhide SC).mono ?_
    rintro e VF ⟨rfl, vf⟩
    have BF := hide ((unhide BE).trans (vf.mono (unhide BE).size))
    clear vf SC d0 d1 d2 d3 d4 d5 d6 d7 f0 f1 f2 f3 f4 f5 f6 f7 bE XE XF BE
    -- region 6: GetCommand of the bytes, at world VF, BF : Below w.heap.size w VF
    have GB := hide (unhide GC VF (unhide BF))
    go_wp2_with fail
    refine (unhide GB).mono ?_
    rintro e V3 ⟨ta, tt, rfl, ca, _, v3⟩
    have B3 := hide ((unhide BF).trans (v3.mono (unhide BF).size))
    have CA := hide ca
    clear ca v3 GB GC BF
    by_cases hg : (getV l1).2 = 0
    · have PG := hide (put_get (l := l1) (unhide BB).lt (c := (getV l1).1) (Prod.ext rfl hg))
      rw [hg]
      rw [show ((0 : Nat) : Int) = 0 from rfl]
      generalize (getV l1).1 = x at *
      have PX := hide (fun (W : World) (hb : Below V3.heap.size V3 W) (hm : Mx W) => kput_calls x ta tt W ((unhide CA).later hb) hm)
      have PVX := hide (show putV x = l1 by unfold putV; rw [if_pos (unhide PG).1]; exact (unhide PG).2)
      have CX := hide (unhide PG).1
      unfold PutKE at PX
      rw [unhide CX, unhide PVX] at PX
      clear hg PG PVX CX CA
      unfold cmdVal at *
      obtain ⟨act2, cli2, seq2, exp2, host2, pre2, pool2, ts2⟩ := x
      dsimp only at *
      have bD := hide (show Below V3.heap.size V3 (V3.alloc (.cells #[.int .i64 act2, .int .i64 cli2, .int .i64 seq2, .int .i64 exp2, .string host2, .string pre2, .string pool2, .slice ta ts2.length tt] 25)) from (Below.refl _ _).alloc (Nat.le_refl _) _)
      have XD := hide (heap_new V3 (.cells #[.int .i64 act2, .int .i64 cli2, .int .i64 seq2, .int .i64 exp2, .string host2, .string pre2, .string pool2, .slice ta ts2.length tt] 25))
      have B4 := hide ((unhide B3).trans ((unhide bD).mono (unhide B3).size))
      have PY := hide (unhide PX _ (unhide bD) (unhide MX _ (unhide B4)))
      clear PX
      have d0 := fcell0 (unhide XD) 0 (.int .i64 act2) rfl
      have d1 := fcell0 (unhide XD) 1 (.int .i64 cli2) rfl
      have d2 := fcell0 (unhide XD) 2 (.int .i64 seq2) rfl
      have d3 := fcell0 (unhide XD) 3 (.int .i64 exp2) rfl
      have d4 := fcell0 (unhide XD) 4 (.string host2) rfl
      have d5 := fcell0 (unhide XD) 5 (.string pre2) rfl
      have d6 := fcell0 (unhide XD) 6 (.string pool2) rfl
      have d7 := fcell0 (unhide XD) 7 (.slice ta ts2.length tt) rfl
      go_wp2_with fail
      generalize (V3.alloc (.cells #[.int .i64 act2, .int .i64 cli2, .int .i64 seq2, .int .i64 exp2, .string host2, .string pre2, .string pool2, .slice ta ts2.length tt] 25)) = V4 at *
      refine (unhide PY).mono ?_
      rintro e V5 ⟨sp5, n5, c5, rfl, hn5, ho5, v5⟩
      have B5 := hide ((unhide B4).trans (v5.mono (unhide B4).size))
      have O5 := hide ho5
      have N5 := hide hn5
      have LV := hide (live8_calls V5 (unhide MX V5 (unhide B5)))
      clear ho5 hn5 v5 PY d0 d1 d2 d3 d4 d5 d6 d7
      go_wp2_with fail
      refine (unhide LV).mono ?_
      rintro e V6 ⟨rfl, v6⟩
      have B6 := hide ((unhide B5).trans (v6.mono (unhide B5).size))
      have hcv1 := run_string8 n5 c5 (unhide N5) ((unhide O5).bytes.later v6)
      have hcv2 := run_string8 l1.length c1 rfl ((unhide BB).later (unhide B6))
      clear v6 LV
      go_wp2
      go_ret
      exact ⟨rfl, unhide B6⟩
    · have hv : (getV l1).1 = cz := by
        unfold getV at hg ⊢
        split
        · rename_i h0; rw [if_pos h0] at hg; exact absurd rfl hg
        · rfl
      rw [hv] at CA ⊢
      have x1 : ¬ ((getV l1).2 : Int) = 0 := by omega
      have x2 : (((getV l1).2 : Int) == 0) = false := by simp [hg]
      have x3 : (((getV l1).2 : Int) != 0) = true := by simp [hg]
      generalize ((getV l1).2 : Int) = ei at *
      dsimp only [cz, List.length_nil]
      have bD := hide (show Below V3.heap.size V3 (V3.alloc (.cells #[.int .i64 0, .int .i64 0, .int .i64 0, .int .i64 0, .string ⟨#[]⟩, .string ⟨#[]⟩, .string ⟨#[]⟩, .slice ta 0 tt] 25)) from (Below.refl _ _).alloc (Nat.le_refl _) _)
      have XD := hide (heap_new V3 (.cells #[.int .i64 0, .int .i64 0, .int .i64 0, .int .i64 0, .string ⟨#[]⟩, .string ⟨#[]⟩, .string ⟨#[]⟩, .slice ta 0 tt] 25))
      have B4 := hide ((unhide B3).trans ((unhide bD).mono (unhide B3).size))
      have LV := hide (live8_calls _ (unhide MX _ (unhide B4)))
      clear hg hv CA
      go_wp2_with fail
      generalize (V3.alloc (.cells #[.int .i64 0, .int .i64 0, .int .i64 0, .int .i64 0, .string ⟨#[]⟩, .string ⟨#[]⟩, .string ⟨#[]⟩, .slice ta 0 tt] 25)) = V4 at *
      refine (unhide LV).mono ?_
      rintro e V5 ⟨rfl, v5⟩
      have B5 := hide ((unhide B4).trans (v5.mono (unhide B4).size))
      have XE := hide (later_block v5 (unhide XD))
      have SC := hide (sameM_calls (w := V5) (c := cz) (a := ta) (t := tt) (a' := none) (t' := 0) ⟨by simp [cz], fun i hi => by simp [cz] at hi⟩ ⟨by simp [cz], fun i hi => by simp [cz] at hi⟩ (by simp [cz]) ⟨by show (0 : Nat) ≤ _; omega, by show (0 : Nat) ≤ _; omega, by show (0 : Nat) ≤ _; omega⟩)
      rw [show cmdVal cz ta tt = .agg #[.int .i64 0, .int .i64 0, .int .i64 0, .int .i64 0, .string ⟨#[]⟩, .string ⟨#[]⟩, .string ⟨#[]⟩, .slice ta 0 tt] from rfl, show cmdVal cz none 0 = .agg #[.int .i64 0, .int .i64 0, .int .i64 0, .int .i64 0, .string ⟨#[]⟩, .string ⟨#[]⟩, .string ⟨#[]⟩, .slice none 0 0] from rfl] at SC
      have d0 := fcell0 (unhide XE) 0 (.int .i64 0) rfl
      have d1 := fcell0 (unhide XE) 1 (.int .i64 0) rfl
      have d2 := fcell0 (unhide XE) 2 (.int .i64 0) rfl
      have d3 := fcell0 (unhide XE) 3 (.int .i64 0) rfl
      have d4 := fcell0 (unhide XE) 4 (.string ⟨#[]⟩) rfl
      have d5 := fcell0 (unhide XE) 5 (.string ⟨#[]⟩) rfl
      have d6 := fcell0 (unhide XE) 6 (.string ⟨#[]⟩) rfl
      have d7 := fcell0 (unhide XE) 7 (.slice ta 0 tt) rfl
      clear v5 LV
      go_wp2_with fail
      refine (unhide SC).mono ?_
      rintro e V6 ⟨rfl, v6⟩
      have B6 := hide ((unhide B5).trans (v6.mono (unhide B5).size))
      clear v6 SC d0 d1 d2 d3 d4 d5 d6 d7
      go_wp2
      go_ret
      exact ⟨rfl, unhide B6⟩
  · as_aux_lemma =>
    have k1 : ¬ (checkC c : Int) = 0 := by omega
    have k2 : ((checkC c : Int) == 0) = false := by simp [hck]
    clear GP hck PV SM
    generalize (checkC c : Int) = ci at *
    generalize putV c = L at *
    unfold cmdVal cmdRow at *
    obtain ⟨act, cli, seq, exp, host, pre, pool, ts⟩ := c
    dsimp only at *
    go_enter Tryz.func5, Tryz.ntmps5
    go_wp2_with fail
    generalize (w.alloc (.cells #[.int .i64 act, .int .i64 cli, .int .i64 seq, .int .i64 exp, .string host, .string pre, .string pool, .slice a ts.length tc] 25)) = V0 at *
    refine (unhide PC).mono ?_
    rintro e V1 ⟨sp, n, cc, rfl, hn, ho, v1⟩
    have B1 := hide ((unhide bX).trans (v1.mono (unhide bX).size))
    clear ho hn v1 PC X1
    -- region 6: GetCommand of the bytes, at world V1, B1 : Below w.heap.size w V1
    have GB := hide (unhide GC V1 (unhide B1))
    go_wp2_with fail
    refine (unhide GB).mono ?_
    rintro e V3 ⟨ta, tt, rfl, ca, _, v3⟩
    have B3 := hide ((unhide B1).trans (v3.mono (unhide B1).size))
    have CA := hide ca
    clear ca v3 GB GC B1
    by_cases hg : (getV l1).2 = 0
    · have PG := hide (put_get (l := l1) (unhide BB).lt (c := (getV l1).1) (Prod.ext rfl hg))
      rw [hg]
      rw [show ((0 : Nat) : Int) = 0 from rfl]
      generalize (getV l1).1 = x at *
      have PX := hide (fun (W : World) (hb : Below V3.heap.size V3 W) (hm : Mx W) => kput_calls x ta tt W ((unhide CA).later hb) hm)
      have PVX := hide (show putV x = l1 by unfold putV; rw [if_pos (unhide PG).1]; exact (unhide PG).2)
      have CX := hide (unhide PG).1
      unfold PutKE at PX
      rw [unhide CX, unhide PVX] at PX
      clear hg PG PVX CX CA
      unfold cmdVal at *
      obtain ⟨act2, cli2, seq2, exp2, host2, pre2, pool2, ts2⟩ := x
      dsimp only at *
      have bD := hide (show Below V3.heap.size V3 (V3.alloc (.cells #[.int .i64 act2, .int .i64 cli2, .int .i64 seq2, .int .i64 exp2, .string host2, .string pre2, .string pool2, .slice ta ts2.length tt] 25)) from (Below.refl _ _).alloc (Nat.le_refl _) _)
      have XD := hide (heap_new V3 (.cells #[.int .i64 act2, .int .i64 cli2, .int .i64 seq2, .int .i64 exp2, .string host2, .string pre2, .string pool2, .slice ta ts2.length tt] 25))
      have B4 := hide ((unhide B3).trans ((unhide bD).mono (unhide B3).size))
      have PY := hide (unhide PX _ (unhide bD) (unhide MX _ (unhide B4)))
      clear PX
      have d0 := fcell0 (unhide XD) 0 (.int .i64 act2) rfl
      have d1 := fcell0 (unhide XD) 1 (.int .i64 cli2) rfl
      have d2 := fcell0 (unhide XD) 2 (.int .i64 seq2) rfl
      have d3 := fcell0 (unhide XD) 3 (.int .i64 exp2) rfl
      have d4 := fcell0 (unhide XD) 4 (.string host2) rfl
      have d5 := fcell0 (unhide XD) 5 (.string pre2) rfl
      have d6 := fcell0 (unhide XD) 6 (.string pool2) rfl
      have d7 := fcell0 (unhide XD) 7 (.slice ta ts2.length tt) rfl
      go_wp2_with fail
      generalize (V3.alloc (.cells #[.int .i64 act2, .int .i64 cli2, .int .i64 seq2, .int .i64 exp2, .string host2, .string pre2, .string pool2, .slice ta ts2.length tt] 25)) = V4 at *
      refine (unhide PY).mono ?_
      rintro e V5 ⟨sp5, n5, c5, rfl, hn5, ho5, v5⟩
      have B5 := hide ((unhide B4).trans (v5.mono (unhide B4).size))
      have O5 := hide ho5
      have N5 := hide hn5
      have LV := hide (live8_calls V5 (unhide MX V5 (unhide B5)))
      clear ho5 hn5 v5 PY d0 d1 d2 d3 d4 d5 d6 d7
      go_wp2_with fail
      refine (unhide LV).mono ?_
      rintro e V6 ⟨rfl, v6⟩
      have B6 := hide ((unhide B5).trans (v6.mono (unhide B5).size))
      have hcv1 := run_string8 n5 c5 (unhide N5) ((unhide O5).bytes.later v6)
      have hcv2 := run_string8 l1.length c1 rfl ((unhide BB).later (unhide B6))
      clear v6 LV
      go_wp2
      go_ret
      exact ⟨rfl, unhide B6⟩
    · have hv : (getV l1).1 = cz := by
        unfold getV at hg ⊢
        split
        · rename_i h0; rw [if_pos h0] at hg; exact absurd rfl hg
        · rfl
      rw [hv] at CA ⊢
      have x1 : ¬ ((getV l1).2 : Int) = 0 := by omega
      have x2 : (((getV l1).2 : Int) == 0) = false := by simp [hg]
      have x3 : (((getV l1).2 : Int) != 0) = true := by simp [hg]
      generalize ((getV l1).2 : Int) = ei at *
      dsimp only [cz, List.length_nil]
      have bD := hide (show Below V3.heap.size V3 (V3.alloc (.cells #[.int .i64 0, .int .i64 0, .int .i64 0, .int .i64 0, .string ⟨#[]⟩, .string ⟨#[]⟩, .string ⟨#[]⟩, .slice ta 0 tt] 25)) from (Below.refl _ _).alloc (Nat.le_refl _) _)
      have XD := hide (heap_new V3 (.cells #[.int .i64 0, .int .i64 0, .int .i64 0, .int .i64 0, .string ⟨#[]⟩, .string ⟨#[]⟩, .string ⟨#[]⟩, .slice ta 0 tt] 25))
      have B4 := hide ((unhide B3).trans ((unhide bD).mono (unhide B3).size))
      have LV := hide (live8_calls _ (unhide MX _ (unhide B4)))
      clear hg hv CA
      go_wp2_with fail
      generalize (V3.alloc (.cells #[.int .i64 0, .int .i64 0, .int .i64 0, .int .i64 0, .string ⟨#[]⟩, .string ⟨#[]⟩, .string ⟨#[]⟩, .slice ta 0 tt] 25)) = V4 at *
      refine (unhide LV).mono ?_
      rintro e V5 ⟨rfl, v5⟩
      have B5 := hide ((unhide B4).trans (v5.mono (unhide B4).size))
      have XE := hide (later_block v5 (unhide XD))
      have SC := hide (sameM_calls (w := V5) (c := cz) (a := ta) (t := tt) (a' := none) (t' := 0) ⟨by simp [cz], fun i hi => by simp [cz] at hi⟩ ⟨by simp [cz], fun i hi => by simp [cz] at hi⟩ (by simp [cz]) ⟨by show (0 : Nat) ≤ _; omega, by show (0 : Nat) ≤ _; omega, by show (0 : Nat) ≤ _; omega⟩)
      rw [show cmdVal cz ta tt = .agg #[.int .i64 0, .int .i64 0, .int .i64 0, .int .i64 0, .string ⟨#[]⟩, .string ⟨#[]⟩, .string ⟨#[]⟩, .slice ta 0 tt] from rfl, show cmdVal cz none 0 = .agg #[.int .i64 0, .int .i64 0, .int .i64 0, .int .i64 0, .string ⟨#[]⟩, .string ⟨#[]⟩, .string ⟨#[]⟩, .slice none 0 0] from rfl] at SC
      have d0 := fcell0 (unhide XE) 0 (.int .i64 0) rfl
      have d1 := fcell0 (unhide XE) 1 (.int .i64 0) rfl
      have d2 := fcell0 (unhide XE) 2 (.int .i64 0) rfl
      have d3 := fcell0 (unhide XE) 3 (.int .i64 0) rfl
      have d4 := fcell0 (unhide XE) 4 (.string ⟨#[]⟩) rfl
      have d5 := fcell0 (unhide XE) 5 (.string ⟨#[]⟩) rfl
      have d6 := fcell0 (unhide XE) 6 (.string ⟨#[]⟩) rfl
      have d7 := fcell0 (unhide XE) 7 (.slice ta 0 tt) rfl
      clear v5 LV
      go_wp2_with fail
      refine (unhide SC).mono ?_
      rintro e V6 ⟨rfl, v6⟩
      have B6 := hide ((unhide B5).trans (v6.mono (unhide B5).size))
      clear v6 SC d0 d1 d2 d3 d4 d5 d6 d7
      go_wp2
      go_ret
      exact ⟨rfl, unhide B6⟩

set_option maxRecDepth 100000 in
theorem lifted (os : Os) (started : os.Started) (H : Type) (enc : TypeId × Value → H) :
    ReturnsInHanded {} Tryz.checked os 5 .any (fun w args => (Rows.confBackSpec.pre enc Tryz.prog Tryz.f5 Rows.confBackRow.domain false w args ∧ laidMetH Tryz.prog Rows.confBackRow.laid w) ∧ sizedMet enc Tryz.prog Tryz.f5 (OpenSpec.ofChange Rows.confBackSpec) false w args)
      (Rows.confBackSpec.post enc Tryz.prog Tryz.f5 false true false false) := by
  refine handed_both (C := Tryz.checked) (X := fun w _ => laidMetH Tryz.prog Rows.confBackRow.laid w) (fun _ _ _ hh h => h.of_heap hh) own started (by kernel_rfl) Tryz.func5
    (ChangeSpec.witness_shaped (enc := enc) (C := Tryz.checked) (os := os) (X := fun w _ => laidMetH Tryz.prog Rows.confBackRow.laid w) false (World.laidAll Tryz.prog os Rows.confBackRow.laid) #[.agg #[.int .i64 0, .int .i64 0, .int .i64 0, .int .i64 0, .string ⟨#[]⟩, .string ⟨#[]⟩, .string ⟨#[]⟩, .slice none 0 0], .slice none 0 0] 8 (World.laidAll_os _ _ _)
      (World.shaped_of_ZipB (by kernel_rfl) (by kernel_rfl)) (by kernel_rfl) (by kernel_rfl) (by kernel_rfl)
      (by rw [MakeChecks.laidMetH_plain _ _ _ (by kernel_rfl)]; exact laidMet_laidAll _ (by kernel_rfl) (by kernel_rfl))) ?_
  intro W base args ds gs before hval0 hW hcnd hsz hL hsh _
  have hLz : Lz W := lz_of (by rw [MakeChecks.laidMetH_plain _ _ _ (by kernel_rfl)] at hL; exact hL) hsh
  have hval : ∀ (j : Nat) t v, Tryz.f5.params[j]? = some t → args[j]? = some v → Value.okWide Tryz.prog W .any base t v := hval0
  have hW' := hW
  obtain ⟨p, q, hA0, hV, rfl, hfz, hnd⟩ := hW
  have hA : DataW.TrodAll enc Tryz.prog W 0 (fun _ => true) true Tryz.f5.params.toList args.toList ds p := hA0
  rw [Tryz.params5] at hA hval
  obtain ⟨v0, vs0, d0, ds0, p0, q0, hargs, rfl, rfl, h0, r0⟩ := trodAll_cons hA
  obtain ⟨v1, vs1, d1, ds1, p1, q1, rfl, rfl, rfl, h1, r1⟩ := trodAll_cons r0
  obtain ⟨rfl, rfl, rfl⟩ := trodAll_nil r1
  obtain rfl : args = #[v0, v1] := by cases args; simp_all
  obtain ⟨rfl, rfl⟩ := trodVars_none hV
  have k0 := h0
  have lt0 : ∀ x ∈ p0, x.block < W.heap.size := by obtain ⟨m, hm⟩ := k0; exact DataW.trod_lt m _ _ _ hm
  obtain ⟨e0, q0, rfl, hb0⟩ := open_cmdS (hval 0 25 v0 rfl rfl) h0 (fun n hn => of_decide_eq_true (List.all_eq_true.1 hsz n (DataW.weights_mem_each (j := 0) (d := d0) rfl rfl n hn)))
  obtain ⟨a1, len1, c1, rfl⟩ := okWide_slice Tryz.underlying26 (hval 1 26 v1 rfl rfl)
  have k1 := h1
  have lt1 : ∀ x ∈ p1, x.block < W.heap.size := by obtain ⟨m, hm⟩ := k1; exact DataW.trod_lt m _ _ _ hm
  obtain ⟨l1, rfl, hc1, hx1, hb1, hz1, hr1⟩ := row8 h1
  clear hA0 hval0
  have hm1 : c1 ≤ 140737488355328 := reach8 hsz (j := 1) (d := d1) rfl rfl hr1
  refine (walk e0 q0 a1 c1 l1 W hb0 hc1 hm1 hb1 hz1 hLz).mono fun e W' ⟨he, bel⟩ => ?_
  subst he
  exact ⟨_, rfl, _, _, _, [], _, [], hW', trodAll_mk1 (shut_bool Tryz.underlying4 _), (trodAll_cons_mk (Below.trod laidOut (by kernel_rfl) (of_decide_eq_true (by kernel_rfl)) k0 bel lt0) (trodAll_cons_mk (Below.trod laidOut (by kernel_rfl) (of_decide_eq_true (by kernel_rfl)) k1 bel lt1) trodAll_mk0)), rfl, bel.frame _, fun h => by cases h⟩

theorem proved : Rows.ConfBackSaid :=
  OpenClaim.holds_of_wide 5 Tryz.f5 rfl rfl rfl rfl rfl rfl rfl ⟨rfl, rfl, rfl, rfl, rfl⟩ rfl rfl rfl rfl rfl (by kernel_rfl) Tryz.func5 (by kernel_rfl)
    (of_decide_eq_true (by kernel_rfl)) (by unfold Func.isWrapper; first | (rw [if_pos (by decide +kernel)]; kernel_rfl) | (rw [if_neg (by decide +kernel)]; exact ⟨rfl, rfl⟩))
    (fun os started H enc _ => lifted os started H enc)
theorem card : Rows.ConfBackCardSaid :=
  Claim7.holds_tied_plain_at .later [] [.data, .pinned] true (true, "b7fa9f903173f51ff5646f2ce31a9d2e1f2bb21ed41642c1f1054eddabb198cc") true proved (fun _ h => by cases h) (by kernel_rfl) (fun _ h => by cases h) confBack_row_tie rfl ⟨rfl, rfl⟩ (by kernel_rfl) rfl
    (fun f fn hf hfn => by
      obtain rfl : f = 5 := Option.some.inj ((show Tryz.prog.funcNamed "tollgate/tollgatelaw08.ConfBack" = some 5 by kernel_rfl).symm.trans hf) |>.symm
      obtain rfl : fn = Tryz.f5 := (Option.some.inj (Tryz.func5.symm.trans hfn)).symm
      exact ⟨by kernel_rfl, fun j t ht => by
        rw [Tryz.params5] at ht
        have hm : t ∈ [25, 26] := by simpa using Array.mem_of_getElem? ht
        have hall : ([25, 26].all fun u => !Tryz.prog.wantsStandIn u) = true := by kernel_rfl
        exact (show Tryz.prog.wantsStandIn t = false by simpa using List.all_eq_true.1 hall t hm)⟩)
    (by kernel_rfl)
end Go.Proofs.YtpkpnedcecjlbaaGreatDoor.confBack
namespace Go.Proofs.YtpkpnedcecjlbaaGreatDoor
theorem confBack_holds : Rows.ConfBackCardSaid := confBack.card
#print axioms confBack_holds
end Go.Proofs.YtpkpnedcecjlbaaGreatDoor
