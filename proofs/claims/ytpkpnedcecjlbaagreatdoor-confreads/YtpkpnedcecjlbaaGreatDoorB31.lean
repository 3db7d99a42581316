/- Conf: PutCommand, the program's. -/
import Derived.Test.YtpkpnedcecjlbaaGreatDoorB25
import Derived.Test.YtpkpnedcecjlbaaGreatDoorB30
import Derived.Test.YtpkpnedcecjlbaaGreatDoorB07
section
namespace Go.Proofs.YtpkpnedcecjlbaaGreatDoor
open Go.ChangeShapes Go.WideShapes Go.ChangeAt Go.RowKit
set_option linter.unusedVariables false

/-- A command's bytes. -/
def cmdB (c : Cmd) : List Nat := numB c.act.toNat ++ (numB c.cli.toNat ++ (numB c.seq.toNat ++ (numB (c.exp + 1).toNat ++ (txB c.host ++ (txB c.pre ++ (txB c.pool ++ tgsB c.ts))))))
def putV (c : Cmd) : List Nat := if checkC c = 0 then cmdB c else []
/-- How PutCommand ends. -/
def PutKE (c : Cmd) (w : World) (en : Ending) (w' : World) : Prop := ∃ sp n cc, en = .returned (.tuple #[.slice sp n cc, .int .i64 (checkC c : Int)]) ∧ (putV c).length = n ∧ OwnB w.heap.size w' sp cc (putV c) ∧ Below w.heap.size w w'
theorem nums_nat {c : Cmd} (h : numsOk c = true) : ∃ na nc ns ne : Nat, c.act = na ∧ c.cli = nc ∧ c.seq = ns ∧ c.exp + 1 = ne ∧ na ≤ 4 ∧ nc ≤ 32 ∧ ns ≤ 1099511627776 ∧ ne ≤ 1099511627776 := by
  unfold numsOk at h
  simp only [Bool.and_eq_true, decide_eq_true_eq] at h
  obtain ⟨⟨⟨h1, h2⟩, h3⟩, h4⟩ := h
  have h5 : 0 ≤ c.seq ∧ c.seq ≤ 1099511627776 := by
    split at h3
    · have := of_decide_eq_true h3; omega
    · have := of_decide_eq_true h3; omega
  exact ⟨c.act.toNat, c.cli.toNat, c.seq.toNat, (c.exp + 1).toNat, by omega, by omega, by omega, by omega, by omega, by omega, by omega, by omega⟩
theorem cmdB_eq (c : Cmd) : numsB [c.act.toNat, c.cli.toNat, c.seq.toNat, (c.exp + 1).toNat] ++ txsB [c.host, c.pre, c.pool] ++ tgsB c.ts = cmdB c := by
  simp [numsB, txsB, cmdB, List.append_assoc]
set_option maxRecDepth 20000 in
set_option maxHeartbeats 8000000 in
theorem kput_calls (c : Cmd) (a : Option Addr) (tc : Nat) (w : World) (h : CmdAt w c a tc) (hm : Mx w) : Calls Tryz.prog 8 #[cmdVal c a tc] w (PutKE c w) := by
  have bX := hide (show Below w.heap.size w (w.alloc (.cells (cmdRow c a tc) 25)) from (Below.refl _ _).alloc (Nat.le_refl _) _)
  have X1 := hide (heap_new w (.cells (cmdRow c a tc) 25))
  have SX := hide (show (w.alloc (.cells (cmdRow c a tc) 25)).heap.size = w.heap.size + 1 by simp)
  have CK := hide (check_calls c a tc _ (h.later (unhide bX)) (hm.later (unhide bX)))
  have HT := hide (h.tgs.later (unhide bX))
  by_cases hck : checkC c = 0
  · as_aux_lemma =>
    obtain ⟨p1, p2, p3, p4, p5⟩ := check_parts hck
    obtain ⟨s1, s2, s3, s4, s5⟩ := check_small hck
    obtain ⟨na, nc, ns, ne, e1, e2, e3, e4, l1, l2, l3, l4⟩ := nums_nat p1
    have PV := hide (show putV c = cmdB c by unfold putV; rw [if_pos hck])
    have EQ := hide (cmdB_eq c)
    have PE := hide (show PutKE c w = fun en w' => ∃ sp n cc, en = .returned (.tuple #[.slice sp n cc, .int .i64 0]) ∧ (putV c).length = n ∧ OwnB w.heap.size w' sp cc (putV c) ∧ Below w.heap.size w w' by unfold PutKE; rw [hck]; rfl)
    rw [hck] at CK
    rw [show ((0 : Nat) : Int) = 0 from rfl] at CK
    rw [unhide PE]
    rw [e1, e2, e3, e4, show ((na : Int)).toNat = na by omega, show ((nc : Int)).toNat = nc by omega, show ((ns : Int)).toNat = ns by omega, show ((ne : Int)).toNat = ne by omega] at EQ
    rw [unhide PV]
    generalize cmdB c = CB at *
    have hwr : IntKind.i64.wrap (c.exp + 1) = (ne : Int) := by rw [e4, IntKind.wrap_i64]; omega
    clear h hm hck p1 p2 p3 p4 PV PE e4
    unfold cmdVal cmdRow at *
    obtain ⟨act, cli, seq, exp, host, pre, pool, ts⟩ := c
    simp only at *
    subst e1 e2 e3
    go_enter Tryz.func8, Tryz.ntmps8
    go_wp2_with fail
    generalize hD : w.heap.size = D at *
    generalize (w.alloc (.cells #[.int .i64 (na : Int), .int .i64 (nc : Int), .int .i64 (ns : Int), .int .i64 exp, .string host, .string pre, .string pool, .slice a ts.length tc] 25)) = V0 at *
    refine (unhide CK).mono ?_
    rintro e V1 ⟨rfl, v1⟩
    have XB := hide (later_block v1 (unhide X1))
    have k0 := box_cell (unhide XB) 0 (.int .i64 (na : Int)) rfl
    have k1 := box_cell (unhide XB) 1 (.int .i64 (nc : Int)) rfl
    have k2 := box_cell (unhide XB) 2 (.int .i64 (ns : Int)) rfl
    have k3 := box_cell (unhide XB) 3 (.int .i64 exp) rfl
    have bA := hide (show Below V1.heap.size V1 (V1.alloc (.cells (nsRow [na, nc, ns, ne]) 3)) from (Below.refl _ _).alloc (Nat.le_refl _) _)
    have CN := hide (addNumbers_calls V0.heap.size (l := []) rfl (OwnB.ofNil _ _) V1.heap.size 4 4 [na, nc, ns, ne] rfl (heap_new V1 (.cells (nsRow [na, nc, ns, ne]) 3)) (by intro n hn; simp only [List.mem_cons, List.not_mem_nil, or_false] at hn; rcases hn with rfl | rfl | rfl | rfl <;> omega) (by decide) (by decide) (Nat.le_trans v1.size (unhide bA).size))
    have HV1 := hide (v1.trans ((unhide bA).mono v1.size))
    have SZA := hide (Nat.le_trans v1.size (unhide bA).size)
    rw [show nsRow [na, nc, ns, ne] = #[.int .i64 (na : Int), .int .i64 (nc : Int), .int .i64 (ns : Int), .int .i64 (ne : Int)] from rfl] at CN bA HV1 SZA
    rw [List.nil_append] at CN
    clear v1 CK
    go_wp2_with fail
    refine (unhide CN).mono ?_
    rintro e V2 ⟨q1, m1, c1, rfl, hn1, ho1, hg1⟩
    have HV2 := hide (below_own (Nat.le_refl _) (OwnB.ofNil _ _) hg1 (unhide SZA) (unhide HV1))
    have XC := hide (later_block (unhide HV2) (unhide X1))
    have t0 := box_cell (unhide XC) 4 (.string host) rfl
    have t1 := box_cell (unhide XC) 5 (.string pre) rfl
    have t2 := box_cell (unhide XC) 6 (.string pool) rfl
    have bB := hide (show Below V2.heap.size V2 (V2.alloc (.cells (tsRow [host, pre, pool]) 9)) from (Below.refl _ _).alloc (Nat.le_refl _) _)
    have LN := hide (show (numsB [na, nc, ns, ne]).length ≤ 24 from by
      have h1 := numB_len6 na (by omega)
      have h2 := numB_len6 nc (by omega)
      have h3 := numB_len6 ns (by omega)
      have h4 := numB_len6 ne (by omega)
      simp only [numsB, List.flatMap_cons, List.flatMap_nil, List.append_nil, List.length_append]
      omega)
    have OV := hide (ho1.later (unhide bB))
    have SZB := hide (Nat.le_trans (unhide HV2).size (unhide bB).size)
    have CT := hide (addTexts_calls V0.heap.size (unhide hn1) (unhide OV) V2.heap.size 3 3 [host, pre, pool] rfl (heap_new V2 (.cells (tsRow [host, pre, pool]) 9)) (by intro y hy; simp only [List.mem_cons, List.not_mem_nil, or_false] at hy; rcases hy with rfl | rfl | rfl <;> assumption) (by have := unhide LN; omega) (by omega) (unhide SZB))
    have HV3 := hide ((unhide HV2).trans ((unhide bB).mono (unhide HV2).size))
    rw [show tsRow [host, pre, pool] = #[.string host, .string pre, .string pool] from rfl] at CT bB HV3 SZB OV
    have HO1 := hide (unhide OV)
    clear ho1 hg1 CN k0 k1 k2 k3 bA
    go_wp2_with fail
    refine (unhide CT).mono ?_
    rintro e V3 ⟨q2, m2, c2, rfl, hn2, ho2, hg2⟩
    have HV4 := hide (below_own (Nat.le_refl _) (unhide HO1) hg2 (unhide SZB) (unhide HV3))
    have XD := hide (later_block (unhide HV4) (unhide X1))
    have u0 := box_cell (unhide XD) 7 (.slice a ts.length tc) rfl
    have LT := hide (show (numsB [na, nc, ns, ne] ++ txsB [host, pre, pool]).length ≤ 3000100 from by
      have h1 := txB_len host (by omega)
      have h2 := txB_len pre (by omega)
      have h3 := txB_len pool (by omega)
      have h4 := unhide LN
      rw [List.length_append]
      simp only [txsB, List.flatMap_cons, List.flatMap_nil, List.append_nil, List.length_append]
      omega)
    have CG := hide (addTargets_calls V0.heap.size (unhide HT) (unhide HV4) (Nat.le_refl _) (unhide hn2) ho2 ts.length tc rfl (fun t ht => s5 t ht) (by have := unhide LT; have h2 : 1000014 * ts.length ≤ 1000014 * 16 := Nat.mul_le_mul_left _ p5; omega) (by omega) (unhide HV4).size)
    have HO2 := hide ho2
    clear ho2 hg2 CT t0 t1 t2 bB
    go_wp2_with fail
    refine (unhide CG).mono ?_
    rintro e V4 ⟨q3, m3, c3, rfl, hn3, ho3, hg3⟩
    have HV5 := hide (below_own (Nat.le_refl _) (unhide HO2) hg3 (unhide HV4).size (unhide HV4))
    rw [unhide EQ] at hn3 ho3
    have FF := hide (show Below D w V4 from by
      have := (unhide bX).trans ((unhide HV5).mono (by have := unhide SX; omega))
      exact this)
    have OO := hide (ho3.mono (base' := D) (by have := unhide SX; omega))
    clear ho3 hg3 CG
    go_wp2
    go_ret2
    rw [hD]
    exact ⟨q3, m3, c3, rfl, unhide hn3, unhide OO, unhide FF⟩
  · as_aux_lemma =>
    have hk1 : ¬ (checkC c : Int) = 0 := by omega
    have hk2 : ((checkC c : Int) == 0) = false := by simp [hck]
    have hk3 : ((checkC c : Int) != 0) = true := by simp [hck]
    have FF := hide (show ∀ W, Below w.heap.size w W → PutKE c w (.returned (.tuple #[.slice none 0 0, .int .i64 (checkC c : Int)])) W from fun W u => by
      have PV : putV c = [] := by unfold putV; rw [if_neg hck]
      unfold PutKE
      rw [PV]
      exact ⟨none, 0, 0, rfl, rfl, OwnB.ofNil _ _, u⟩)
    generalize (checkC c : Int) = ci at *
    clear h hm hck HT
    unfold cmdVal cmdRow at *
    obtain ⟨act, cli, seq, exp, host, pre, pool, ts⟩ := c
    simp only at *
    go_enter Tryz.func8, Tryz.ntmps8
    go_wp2_with fail
    generalize (w.alloc (.cells #[.int .i64 act, .int .i64 cli, .int .i64 seq, .int .i64 exp, .string host, .string pre, .string pool, .slice a ts.length tc] 25)) = V0 at *
    refine (unhide CK).mono ?_
    rintro e V1 ⟨rfl, v1⟩
    have F1 := hide (unhide FF V1 ((unhide bX).trans (v1.mono (unhide bX).size)))
    clear v1 CK FF
    go_wp2
    go_ret2
    exact unhide F1
end Go.Proofs.YtpkpnedcecjlbaaGreatDoor
end
/- Conf, plainly: a command there and back. -/
section
namespace Go.Proofs.YtpkpnedcecjlbaaGreatDoor
open Go.ChangeShapes Go.WideShapes Go.ChangeAt Go.RowKit
set_option linter.unusedVariables false

/-- What lies behind a place. -/
def Sees (l : List Nat) (k : Nat) (r : List Nat) : Prop := k ≤ l.length ∧ l.drop k = r
section
variable {l r : List Nat} {k : Nat}
theorem Sees.split {m : List Nat} (h : Sees l k (m ++ r)) : l = l.take k ++ (m ++ r) ∧ k = (l.take k).length := by
  obtain ⟨h1, h2⟩ := h
  refine ⟨?_, by rw [List.length_take]; omega⟩
  rw [← h2, List.take_append_drop]
theorem Sees.next {m : List Nat} (h : Sees l k (m ++ r)) : Sees l (k + m.length) r := by
  obtain ⟨h1, h2⟩ := h
  have hl : l.length - k = m.length + r.length := by
    have := congrArg List.length h2
    simpa using this
  refine ⟨by omega, ?_⟩
  rw [← List.drop_drop, h2, List.drop_left]
theorem Sees.len {m : List Nat} (h : Sees l k (m ++ r)) : m.length ≤ l.length - k := by
  have := congrArg List.length h.2
  simp only [List.length_drop, List.length_append] at this
  omega
theorem numK_sees {n : Nat} (h : Sees l k (numB n ++ r)) (hn : n ≤ 1099511627776) : ∃ k', numK l k 0 = (n, k', 0) ∧ Sees l k' r := by
  obtain ⟨h1, h2⟩ := h.split
  have ht := takeE_at (a := l.take k) (b := r) h1 h2 hn
  exact ⟨_, numK_ok ht, h.next⟩
theorem cutK_sees {m : List Nat} (h : Sees l k (m ++ r)) : cutK l k 0 m.length = (m, k + m.length, 0) := by
  have hl := h.len
  have hx : cutX l k 0 m.length = 0 := by unfold cutX; rw [if_neg (by omega)]
  unfold cutK
  rw [if_neg (by simp [hx]), h.2, List.take_left]
theorem txtK_sees {s : ByteArray} (h : Sees l k (txB s ++ r)) (hs : s.size ≤ 128) : ∃ k', txtK l k 0 = (bsT s, k', 0) ∧ Sees l k' r := by
  unfold txB at h
  rw [List.append_assoc] at h
  obtain ⟨k1, e1, s1⟩ := numK_sees h (by omega)
  refine ⟨k1 + (bsT s).length, ?_, s1.next⟩
  have e2 : cntK l k 0 128 = (s.size, k1, 0) := by unfold cntK; dsimp only; rw [e1]; dsimp only; rw [if_neg (by omega)]
  unfold txtK
  dsimp only
  rw [e2]
  dsimp only
  rw [← bsT_len s]
  exact cutK_sees s1
theorem numOf_range (x : Nat) : ∀ n, n ≤ 8 → numOf ((List.range n).map (fun k => x / 2 ^ (56 - 8 * k) % 256)) = x / 2 ^ (64 - 8 * n) % 2 ^ (8 * n)
  | 0, _ => by simp [numOf, Nat.mod_one]
  | n + 1, h => by
    rw [List.range_succ, List.map_append, List.map_cons, List.map_nil, numOf_snoc, numOf_range x n (by omega)]
    have e1 : 64 - 8 * n = (56 - 8 * n) + 8 := by omega
    have e2 : 64 - 8 * (n + 1) = 56 - 8 * n := by omega
    rw [e1, e2, Nat.pow_add, ← Nat.div_div_eq_div_mul]
    generalize x / 2 ^ (56 - 8 * n) = y
    have e3 : 2 ^ (8 * (n + 1)) = 256 * 2 ^ (8 * n) := by
      rw [Nat.mul_add, Nat.pow_add, Nat.mul_comm]
    rw [e3, show (2 : Nat) ^ 8 = 256 from rfl, Nat.mod_mul, Nat.mul_comm]
    omega
theorem numOf_wtBy (x : Nat) (h : x < 18446744073709551616) : numOf (wtBy x) = x := by
  unfold wtBy
  rw [numOf_range x 8 (Nat.le_refl _)]
  rw [show 64 - 8 * 8 = 0 from rfl, Nat.pow_zero, Nat.div_one]
  exact Nat.mod_eq_of_lt (by rw [show (2 : Nat) ^ (8 * 8) = 18446744073709551616 from rfl]; exact h)
theorem wtK_sees {x : Nat} (h : Sees l k (wtBy x ++ r)) (hx : x < 18446744073709551616) : ∃ k', wtK l k 0 = (x, k', 0) ∧ Sees l k' r := by
  refine ⟨k + (wtBy x).length, ?_, h.next⟩
  unfold wtK
  dsimp only
  have := cutK_sees h
  rw [wtBy_len] at this
  rw [this]
  dsimp only
  rw [numOf_wtBy x hx, wtBy_len]
theorem tgK_sees {t : Tgt} (h : Sees l k (tgB t ++ r)) (hs : t.1.size ≤ 128) (hx : t.2 < 18446744073709551616) : ∃ k', tgK l k 0 = (t, k', 0) ∧ Sees l k' r := by
  unfold tgB at h
  rw [List.append_assoc] at h
  obtain ⟨k1, e1, s1⟩ := txtK_sees h hs
  obtain ⟨k2, e2, s2⟩ := wtK_sees s1 hx
  refine ⟨k2, ?_, s2⟩
  unfold tgK
  dsimp only
  rw [e1]
  dsimp only
  rw [e2, strOf_bsT]
theorem tgsG_sees : ∀ (ts : List Tgt) (k : Nat), Sees l k (ts.flatMap tgB ++ r) → (∀ t ∈ ts, t.1.size ≤ 128) → (∀ t ∈ ts, t.2 < 18446744073709551616) → ∃ k', tgsG l ts.length k 0 = (ts, k', 0) ∧ Sees l k' r
  | [], k, h, _, _ => ⟨k, rfl, by simpa using h⟩
  | t :: ts, k, h, h1, h2 => by
    rw [List.flatMap_cons, List.append_assoc] at h
    obtain ⟨k1, e1, s1⟩ := tgK_sees h (h1 t (by simp)) (h2 t (by simp))
    obtain ⟨k2, e2, s2⟩ := tgsG_sees ts k1 s1 (fun x hx => h1 x (by simp [hx])) (fun x hx => h2 x (by simp [hx]))
    refine ⟨k2, ?_, s2⟩
    rw [List.length_cons, tgsG_step, e1]
    dsimp only
    rw [e2]
theorem tgsK_sees {ts : List Tgt} (h : Sees l k (tgsB ts ++ r)) (hn : ts.length ≤ 16) (h1 : ∀ t ∈ ts, t.1.size ≤ 128) (h2 : ∀ t ∈ ts, t.2 < 18446744073709551616) : ∃ k', tgsK l k 0 = (ts, k', 0) ∧ Sees l k' r := by
  unfold tgsB at h
  rw [List.append_assoc] at h
  obtain ⟨k1, e1, s1⟩ := numK_sees h (by omega)
  obtain ⟨k2, e2, s2⟩ := tgsG_sees ts k1 s1 h1 h2
  refine ⟨k2, ?_, s2⟩
  have e3 : cntK l k 0 16 = (ts.length, k1, 0) := by unfold cntK; dsimp only; rw [e1]; dsimp only; rw [if_neg (by omega)]
  unfold tgsK
  dsimp only
  rw [e3]
  exact e2
end
/-- A right command's texts, and their sizes. -/
theorem check_128 {c : Cmd} (h : checkC c = 0) : c.host.size ≤ 128 ∧ c.pre.size ≤ 128 ∧ c.pool.size ≤ 128 ∧ ∀ t ∈ c.ts, t.1.size ≤ 128 := by
  obtain ⟨h1, h2, h3, h4, h5⟩ := check_parts h
  unfold unusedOk at h2
  unfold namesOk at h3
  simp only [Bool.and_eq_true, Bool.or_eq_true, Bool.not_eq_true', decide_eq_true_eq, decide_eq_false_iff_not] at h2 h3
  have hh : c.host.size ≤ 128 ∧ c.pre.size ≤ 128 := by
    rcases h3.1.1 with e | e
    · rcases h2.1.1 with e2 | e2
      · rw [e] at e2; cases e2
      · omega
    · refine ⟨?_, ?_⟩
      · have := e.1; unfold hostT at this; simp only [Bool.and_eq_true, decide_eq_true_eq] at this; omega
      · have := e.2; unfold prefT at this; simp only [Bool.and_eq_true] at this; exact made_size this.1
  have hl : c.pool.size ≤ 128 := by
    rcases h3.1.2 with e | e
    · rcases h2.1.2 with e2 | e2
      · exact absurd e e2
      · omega
    · have := made_size e; omega
  exact ⟨hh.1, hh.2, hl, fun t ht => by
    have := List.all_eq_true.1 h3.2 t ht
    have := made_size this
    omega⟩
theorem get_put {c : Cmd} (h : checkC c = 0) (hw : ∀ t ∈ c.ts, t.2 < 18446744073709551616) : getV (cmdB c) = (c, 0) := by
  obtain ⟨p1, _, _, _, p5⟩ := check_parts h
  obtain ⟨z1, z2, z3, z4⟩ := check_128 h
  obtain ⟨na, nc, ns, ne, a1, a2, a3, a4, l1, l2, l3, l4⟩ := nums_nat p1
  have E : cmdB c = numB na ++ (numB nc ++ (numB ns ++ (numB ne ++ (txB c.host ++ (txB c.pre ++ (txB c.pool ++ tgsB c.ts)))))) := by
    unfold cmdB
    rw [a1, a2, a3, a4]
    simp only [Int.toNat_natCast]
  generalize cmdB c = l at *
  have S0 : Sees l 0 (numB na ++ (numB nc ++ (numB ns ++ (numB ne ++ (txB c.host ++ (txB c.pre ++ (txB c.pool ++ tgsB c.ts))))))) := ⟨Nat.zero_le _, by rw [List.drop_zero]; exact E⟩
  obtain ⟨k1, e1, s1⟩ := numK_sees S0 (by omega)
  obtain ⟨k2, e2, s2⟩ := numK_sees s1 (by omega)
  obtain ⟨k3, e3, s3⟩ := numK_sees s2 (by omega)
  obtain ⟨k4, e4, s4⟩ := numK_sees s3 (by omega)
  obtain ⟨k5, e5, s5⟩ := txtK_sees s4 z1
  obtain ⟨k6, e6, s6⟩ := txtK_sees s5 z2
  obtain ⟨k7, e7, s7⟩ := txtK_sees s6 z3
  obtain ⟨k8, e8, s8⟩ := tgsK_sees (r := []) (by rw [List.append_nil]; exact s7) p5 z4 hw
  have hlen : ¬ k8 < l.length := by
    have h1 := congrArg List.length s8.2
    simp only [List.length_drop, List.length_nil] at h1
    omega
  have hc : (⟨(na : Int), (nc : Int), (ns : Int), (ne : Int) - 1, c.host, c.pre, c.pool, c.ts⟩ : Cmd) = c := by
    rw [← a1, ← a2, ← a3, show (ne : Int) - 1 = c.exp by omega]
  have hg : getK l = (c, 0) := by
    unfold getK g1 g2 g3 g4 g5 g6 g7 g8 gE
    rw [e1]; dsimp only
    rw [e2]; dsimp only
    rw [e3]; dsimp only
    rw [e4]; dsimp only
    rw [e5]; dsimp only
    rw [e6]; dsimp only
    rw [e7]; dsimp only
    rw [e8]; dsimp only
    rw [strOf_bsT, strOf_bsT, strOf_bsT, hc]
    unfold endK
    rw [if_neg hlen, if_neg (by simp [h])]
  unfold getV
  rw [hg, if_pos rfl]
section
variable {l : List Nat} (hl : ∀ c ∈ l, c < 256)
include hl
theorem numK_back {k e : Nat} (h : (numK l k e).2.2 = 0) (hk : k ≤ l.length) : e = 0 ∧ Sees l k (numB (numK l k e).1 ++ l.drop (numK l k e).2.1) ∧ (numK l k e).2.1 ≤ l.length ∧ (numK l k e).1 ≤ 1099511627776 := by
  by_cases he : e = 0
  · subst he
    cases ht : takeE l k with
    | ok q =>
      obtain ⟨n, k2⟩ := q
      obtain ⟨h1, h2, h3, h4⟩ := takeE_back hl ht
      rw [numK_ok ht]
      exact ⟨rfl, ⟨hk, h1⟩, h3, h4⟩
    | error x =>
      rw [numK_bad ht] at h
      exact absurd h (takeE_pos ht)
  · rw [numK_err he] at h
    exact absurd h he
theorem cntK_back {k e m : Nat} (h : (cntK l k e m).2.2 = 0) (hk : k ≤ l.length) : e = 0 ∧ Sees l k (numB (cntK l k e m).1 ++ l.drop (cntK l k e m).2.1) ∧ (cntK l k e m).2.1 ≤ l.length := by
  by_cases hm : m < (numK l k e).1
  · have e1 : cntK l k e m = (0, (numK l k e).2.1, failK (numK l k e).2.2 6) := by unfold cntK; dsimp only; rw [if_pos hm]
    rw [e1] at h
    unfold failK at h
    dsimp only at h
    split at h
    · cases h
    · contradiction
  · have e1 : cntK l k e m = numK l k e := by unfold cntK; dsimp only; rw [if_neg hm]
    rw [e1] at h ⊢
    obtain ⟨h1, h2, h3, _⟩ := numK_back hl h hk
    exact ⟨h1, h2, h3⟩
omit hl in
theorem cutK_back {k e n : Nat} (h : (cutK l k e n).2.2 = 0) (hk : k ≤ l.length) : e = 0 ∧ Sees l k ((cutK l k e n).1 ++ l.drop (cutK l k e n).2.1) ∧ (cutK l k e n).2.1 ≤ l.length ∧ (cutK l k e n).1.length = n := by
  by_cases hx : cutX l k e n = 0
  · have hc : cutK l k e n = ((l.drop k).take n, k + n, 0) := by unfold cutK; rw [if_neg (by simp [hx])]
    have hn : ¬ l.length - k < n := by
      intro hn
      unfold cutX failK at hx
      rw [if_pos hn] at hx
      split at hx
      · cases hx
      · contradiction
    have he : e = 0 := by
      unfold cutX at hx
      rw [if_neg hn] at hx
      exact hx
    rw [hc]
    refine ⟨he, ⟨hk, ?_⟩, by dsimp only; omega, by simp only [List.length_take, List.length_drop]; omega⟩
    dsimp only
    rw [← List.drop_drop, List.take_append_drop]
  · have hc : cutK l k e n = ([], k, cutX l k e n) := by unfold cutK; rw [if_pos hx]
    rw [hc] at h
    exact absurd h hx
theorem cutK_lt (k e n : Nat) : ∀ c ∈ (cutK l k e n).1, c < 256 := by
  intro c hc
  unfold cutK at hc
  split at hc
  · cases hc
  · exact hl c (List.mem_of_mem_drop (List.mem_of_mem_take hc))
theorem txtK_back {k e : Nat} (h : (txtK l k e).2.2 = 0) (hk : k ≤ l.length) : e = 0 ∧ Sees l k (txB (strOf (txtK l k e).1) ++ l.drop (txtK l k e).2.1) ∧ (txtK l k e).2.1 ≤ l.length := by
  have e1 : txtK l k e = cutK l (cntK l k e 128).2.1 (cntK l k e 128).2.2 (cntK l k e 128).1 := rfl
  rw [e1] at h ⊢
  have hk1 : (cntK l k e 128).2.1 ≤ l.length := by
    unfold cntK
    dsimp only
    have : (numK l k e).2.1 ≤ l.length := by
      unfold numK
      split
      · exact hk
      · cases ht : takeE l k with
        | ok q => obtain ⟨n, k2⟩ := q; exact (takeE_back hl ht).2.2.1
        | error x => exact hk
    split
    · exact this
    · exact this
  obtain ⟨h1, h2, h3, h4⟩ := cutK_back h hk1
  obtain ⟨h5, h6, _⟩ := cntK_back hl h1 hk
  have hb := cutK_lt hl (cntK l k e 128).2.1 (cntK l k e 128).2.2 (cntK l k e 128).1
  generalize cntK l k e 128 = q at *
  obtain ⟨n, k1, e2⟩ := q
  dsimp only at *
  generalize cutK l k1 e2 n = q2 at *
  obtain ⟨b, k2, e3⟩ := q2
  dsimp only at *
  refine ⟨h5, ⟨hk, ?_⟩, h3⟩
  unfold txB
  rw [strOf_size, h4, bsT_strOf b hb, List.append_assoc, h6.2, h2.2]
omit hl in
theorem wtBy_numOf : ∀ (b : List Nat), b.length = 8 → (∀ c ∈ b, c < 256) → wtBy (numOf b) = b := by
  intro b h8 hb
  match b, h8 with
  | [b0, b1, b2, b3, b4, b5, b6, b7], _ =>
    have g0 := hb b0 (by simp)
    have g1 := hb b1 (by simp)
    have g2 := hb b2 (by simp)
    have g3 := hb b3 (by simp)
    have g4 := hb b4 (by simp)
    have g5 := hb b5 (by simp)
    have g6 := hb b6 (by simp)
    have g7 := hb b7 (by simp)
    have e : numOf [b0, b1, b2, b3, b4, b5, b6, b7] = ((((((b0 * 256 + b1) * 256 + b2) * 256 + b3) * 256 + b4) * 256 + b5) * 256 + b6) * 256 + b7 := by simp [numOf]
    rw [e]
    unfold wtBy
    rw [show List.range 8 = [0, 1, 2, 3, 4, 5, 6, 7] from rfl]
    simp only [List.map_cons, List.map_nil, List.cons.injEq, and_true]
    refine ⟨?_, ?_, ?_, ?_, ?_, ?_, ?_, ?_⟩ <;> simp only [Nat.mul_zero, Nat.sub_zero, Nat.reduceMul, Nat.reduceSub, Nat.reducePow, Nat.pow_zero] <;> omega
theorem wtK_back {k e : Nat} (h : (wtK l k e).2.2 = 0) (hk : k ≤ l.length) : e = 0 ∧ Sees l k (wtBy (wtK l k e).1 ++ l.drop (wtK l k e).2.1) ∧ (wtK l k e).2.1 ≤ l.length := by
  obtain ⟨h1, h2, h3, h4⟩ := cutK_back (l := l) (k := k) (e := e) (n := 8) h hk
  have hb := cutK_lt hl k e 8
  refine ⟨h1, ?_, h3⟩
  have e1 : (wtK l k e).1 = numOf (cutK l k e 8).1 := rfl
  rw [e1, wtBy_numOf _ h4 hb]
  exact h2
theorem tgK_back {k e : Nat} (h : (tgK l k e).2.2 = 0) (hk : k ≤ l.length) : e = 0 ∧ Sees l k (tgB (tgK l k e).1 ++ l.drop (tgK l k e).2.1) ∧ (tgK l k e).2.1 ≤ l.length := by
  have e1 : tgK l k e = ((strOf (txtK l k e).1, (wtK l (txtK l k e).2.1 (txtK l k e).2.2).1), (wtK l (txtK l k e).2.1 (txtK l k e).2.2).2) := rfl
  rw [e1] at h ⊢
  dsimp only at h ⊢
  have hk1 : (txtK l k e).2.2 = 0 → (txtK l k e).2.1 ≤ l.length := fun hh => (txtK_back hl hh hk).2.2
  have hz : (txtK l k e).2.2 = 0 := by
    by_cases hz : (txtK l k e).2.2 = 0
    · exact hz
    · exfalso
      unfold wtK at h
      rw [cutK_err hz] at h
      exact hz h
  obtain ⟨h1, h2, h3⟩ := txtK_back hl hz hk
  obtain ⟨_, h5, h6⟩ := wtK_back hl h h3
  refine ⟨h1, ⟨hk, ?_⟩, h6⟩
  unfold tgB
  dsimp only
  rw [List.append_assoc, h2.2, h5.2]
omit hl in
theorem tgK_err {k e : Nat} (he : e ≠ 0) : (tgK l k e).2.2 = e := by
  have e1 : cntK l k e 128 = (if 128 < 0 then (0, k, failK e 6) else (0, k, e)) := by unfold cntK; rw [numK_err he]
  have e2 : txtK l k e = ([], k, e) := by
    unfold txtK
    rw [e1]
    exact cutK_err he
  unfold tgK
  dsimp only
  rw [e2]
  dsimp only
  unfold wtK
  rw [cutK_err he]
omit hl in
theorem tgsG_zero : ∀ (n k e : Nat), (tgsG l n k e).2.2 = 0 → e = 0
  | 0, k, e, h => h
  | n + 1, k, e, h => by
    rw [tgsG_step] at h
    have h1 := tgsG_zero n _ _ h
    by_cases he : e = 0
    · exact he
    · rw [tgK_err he] at h1
      exact h1
theorem tgsG_back : ∀ (n k e : Nat), (tgsG l n k e).2.2 = 0 → k ≤ l.length → e = 0 ∧ Sees l k ((tgsG l n k e).1.flatMap tgB ++ l.drop (tgsG l n k e).2.1) ∧ (tgsG l n k e).2.1 ≤ l.length
  | 0, k, e, h, hk => ⟨h, ⟨hk, by simp [tgsG]⟩, hk⟩
  | n + 1, k, e, h, hk => by
    rw [tgsG_step] at h ⊢
    dsimp only at h ⊢
    have hz : (tgK l k e).2.2 = 0 := by
      by_cases hz : (tgK l k e).2.2 = 0
      · exact hz
      · exfalso
        exact hz (tgsG_zero n _ _ h)
    obtain ⟨h1, h2, h3⟩ := tgK_back hl hz hk
    obtain ⟨_, h5, h6⟩ := tgsG_back n _ _ h h3
    refine ⟨h1, ⟨hk, ?_⟩, h6⟩
    rw [List.flatMap_cons, List.append_assoc, h2.2, h5.2]
theorem tgsK_back {k e : Nat} (h : (tgsK l k e).2.2 = 0) (hk : k ≤ l.length) : e = 0 ∧ Sees l k (tgsB (tgsK l k e).1 ++ l.drop (tgsK l k e).2.1) ∧ (tgsK l k e).2.1 ≤ l.length := by
  have e1 : tgsK l k e = tgsG l (cntK l k e 16).1 (cntK l k e 16).2.1 (cntK l k e 16).2.2 := rfl
  rw [e1] at h ⊢
  have hz := tgsG_zero _ _ _ h
  obtain ⟨h1, h2, h3⟩ := cntK_back hl hz hk
  obtain ⟨_, h5, h6⟩ := tgsG_back hl _ _ _ h h3
  refine ⟨h1, ⟨hk, ?_⟩, h6⟩
  unfold tgsB
  rw [tgsG_len, List.append_assoc, h2.2, h5.2]
theorem put_get {c : Cmd} (h : getV l = (c, 0)) : checkC c = 0 ∧ cmdB c = l := by
  have hz : (getK l).2 = 0 := by
    unfold getV at h
    split at h
    · assumption
    · have := (Prod.mk.inj h).2
      contradiction
  have hc : (getK l).1 = c := by
    unfold getV at h
    rw [if_pos hz] at h
    exact (Prod.mk.inj h).1
  clear h
  unfold getK g1 g2 g3 g4 g5 g6 g7 g8 gE at hz hc
  have L0 : (0 : Nat) ≤ l.length := Nat.zero_le _
  generalize q1 : numK l 0 0 = a1 at hz hc
  obtain ⟨n0, k0, x0⟩ := a1; dsimp only at hz hc
  generalize q2 : numK l k0 x0 = a2 at hz hc
  obtain ⟨n1, k1, x1⟩ := a2; dsimp only at hz hc
  generalize q3 : numK l k1 x1 = a3 at hz hc
  obtain ⟨n2, k2, x2⟩ := a3; dsimp only at hz hc
  generalize q4 : numK l k2 x2 = a4 at hz hc
  obtain ⟨n3, k3, x3⟩ := a4; dsimp only at hz hc
  generalize q5 : txtK l k3 x3 = a5 at hz hc
  obtain ⟨b4, k4, x4⟩ := a5; dsimp only at hz hc
  generalize q6 : txtK l k4 x4 = a6 at hz hc
  obtain ⟨b5, k5, x5⟩ := a6; dsimp only at hz hc
  generalize q7 : txtK l k5 x5 = a7 at hz hc
  obtain ⟨b6, k6, x6⟩ := a7; dsimp only at hz hc
  generalize q8 : tgsK l k6 x6 = a8 at hz hc
  obtain ⟨ts, k7, x7⟩ := a8; dsimp only at hz hc
  rw [hc] at hz
  have he : endK l k7 x7 = 0 := by
    split at hz
    · rename_i hh; exact hh.1
    · exact hz
  have hck : checkC c = 0 := by
    by_cases hh : checkC c = 0
    · exact hh
    · rw [if_pos ⟨he, hh⟩] at hz; cases hz
  refine ⟨hck, ?_⟩
  have hx : x7 = 0 ∧ l.length ≤ k7 := by
    unfold endK failK at he
    split at he
    · split at he
      · cases he
      · contradiction
    · exact ⟨he, by omega⟩
  obtain ⟨rfl, hlen⟩ := hx
  -- backwards: each error is none
  have key8 : (tgsK l k6 x6).2.2 = 0 := by rw [q8]
  have z6 : x6 = 0 := by
    have := tgsG_zero _ _ _ (show (tgsG l (cntK l k6 x6 16).1 (cntK l k6 x6 16).2.1 (cntK l k6 x6 16).2.2).2.2 = 0 from key8)
    by_cases hh : x6 = 0
    · exact hh
    · exfalso
      have e1 : cntK l k6 x6 16 = (0, k6, x6) := by unfold cntK; rw [numK_err hh]; rfl
      rw [e1] at this
      exact hh this
  have txz : ∀ {k e : Nat}, (txtK l k e).2.2 = 0 → e = 0 := fun {k e} h => by
    by_cases hh : e = 0
    · exact hh
    · exfalso
      have e1 : cntK l k e 128 = (0, k, e) := by unfold cntK; rw [numK_err hh]; rfl
      have e2 : txtK l k e = ([], k, e) := by unfold txtK; rw [e1]; exact cutK_err hh
      rw [e2] at h
      exact hh h
  have nmz : ∀ {k e : Nat}, (numK l k e).2.2 = 0 → e = 0 := fun {k e} h => by
    by_cases hh : e = 0
    · exact hh
    · rw [numK_err hh] at h
      exact h
  subst z6
  have z5 : x5 = 0 := txz (k := k5) (by rw [q7])
  subst z5
  have z4 : x4 = 0 := txz (k := k4) (by rw [q6])
  subst z4
  have z3 : x3 = 0 := txz (k := k3) (by rw [q5])
  subst z3
  have z2 : x2 = 0 := nmz (k := k2) (by rw [q4])
  subst z2
  have z1 : x1 = 0 := nmz (k := k1) (by rw [q3])
  subst z1
  have z0 : x0 = 0 := nmz (k := k0) (by rw [q2])
  subst z0
  obtain ⟨_, s1, m1, _⟩ := numK_back hl (k := 0) (e := 0) (by rw [q1]) L0
  rw [q1] at s1 m1; dsimp only at s1 m1
  obtain ⟨_, s2, m2, _⟩ := numK_back hl (k := k0) (e := 0) (by rw [q2]) m1
  rw [q2] at s2 m2; dsimp only at s2 m2
  obtain ⟨_, s3, m3, _⟩ := numK_back hl (k := k1) (e := 0) (by rw [q3]) m2
  rw [q3] at s3 m3; dsimp only at s3 m3
  obtain ⟨_, s4, m4, _⟩ := numK_back hl (k := k2) (e := 0) (by rw [q4]) m3
  rw [q4] at s4 m4; dsimp only at s4 m4
  obtain ⟨_, s5, m5⟩ := txtK_back hl (k := k3) (e := 0) (by rw [q5]) m4
  rw [q5] at s5 m5; dsimp only at s5 m5
  obtain ⟨_, s6, m6⟩ := txtK_back hl (k := k4) (e := 0) (by rw [q6]) m5
  rw [q6] at s6 m6; dsimp only at s6 m6
  obtain ⟨_, s7, m7⟩ := txtK_back hl (k := k5) (e := 0) (by rw [q7]) m6
  rw [q7] at s7 m7; dsimp only at s7 m7
  obtain ⟨_, s8, m8⟩ := tgsK_back hl (k := k6) (e := 0) (by rw [q8]) m7
  rw [q8] at s8 m8; dsimp only at s8 m8
  have e8 : l.drop k7 = [] := List.drop_eq_nil_of_le hlen
  subst hc
  unfold cmdB
  dsimp only
  rw [show ((n3 : Int) - 1 + 1).toNat = n3 by omega]
  simp only [Int.toNat_natCast]
  have e7 := s8.2
  rw [e8, List.append_nil] at e7
  rw [← e7, ← s7.2, ← s6.2, ← s5.2, ← s4.2, ← s3.2, ← s2.2, ← s1.2, List.drop_zero]
end
end Go.Proofs.YtpkpnedcecjlbaaGreatDoor
end
