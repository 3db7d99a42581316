/- Conf: what stays true of a store, command by command; short. -/
import Derived.Test.YtpkpnedcecjlbaaGreatDoorB35
import Derived.Test.YtpkpnedcecjlbaaGreatDoorB30
import Derived.Test.YtpkpnedcecjlbaaGreatDoorB24
import Derived.Test.YtpkpnedcecjlbaaGreatDoorB32
section
namespace Go.Proofs.YtpkpnedcecjlbaaGreatDoor
open Go.ChangeShapes Go.WideShapes Go.ChangeAt Go.RowKit
set_option linter.unusedVariables false

/-- A store behind at most j commands. -/
structure Smi (j : Nat) (x : Sm) : Prop where
  pn : x.ps.length ≤ j
  rn : x.rs.length ≤ j
  cn : x.cl.length ≤ j
  vr : 0 ≤ x.ver ∧ x.ver ≤ j
  rs : ∀ r ∈ x.rs, r.h.size ≤ 128 ∧ r.p.size ≤ 128 ∧ r.l.size ≤ 128
  ps : ∀ p ∈ x.ps, p.po.nm.size ≤ 128 ∧ p.po.ts.length ≤ 16 ∧ ∀ t ∈ p.po.ts, t.1.size ≤ 128
theorem smi0 : Smi 0 sm0 := ⟨by simp [sm0], by simp [sm0], by simp [sm0], by simp [sm0], by simp [sm0], by simp [sm0]⟩
theorem Smi.ok {j : Nat} {x : Sm} (h : Smi j x) (hj : j ≤ 900) : SmOk x := by
  have hv := h.vr
  refine ⟨⟨?_, ?_, ?_, ?_⟩, by omega, by have := h.cn; omega⟩
  · have := h.rn; show x.rs.length ≤ 1000; omega
  · have := h.pn; show (x.ps.map Pq.po).length ≤ 1000; rw [List.length_map]; omega
  · intro r hr
    obtain ⟨h1, h2, h3⟩ := h.rs r hr
    omega
  · intro p hp
    obtain ⟨q, hq, rfl⟩ := List.mem_map.1 hp
    obtain ⟨h1, h2, h3⟩ := h.ps q hq
    exact ⟨by omega, by omega, fun t ht => Nat.le_trans (h3 t ht) (by omega)⟩
theorem Smi.mono {i j : Nat} {x : Sm} (h : Smi i x) (hij : i ≤ j) : Smi j x :=
  ⟨by have := h.pn; omega, by have := h.rn; omega, by have := h.cn; omega, by have := h.vr; omega, h.rs, h.ps⟩
theorem putPS_is (q : Pq) (x : Sm) : putPS q x = (6, x) ∨ putPS q x = (0, { x with ps := lput qnm q x.ps }) := by
  unfold putPS
  repeat' split
  all_goals first | exact .inl rfl | exact .inr rfl
theorem putRS_is (r : Rt) (x : Sm) : (∃ e, e ≠ 0 ∧ putRS r x = (e, x)) ∨ putRS r x = (0, { x with rs := lput rpl r x.rs }) := by
  unfold putRS
  repeat' split
  all_goals first | exact .inl ⟨8, by decide, rfl⟩ | exact .inl ⟨6, by decide, rfl⟩ | exact .inr rfl
theorem dropPS_is (nm : ByteArray) (x : Sm) : (∃ e, e ≠ 0 ∧ dropPS nm x = (e, x)) ∨ dropPS nm x = (0, { x with ps := ldel qnm nm x.ps }) := by
  unfold dropPS
  repeat' split
  all_goals first | exact .inl ⟨8, by decide, rfl⟩ | exact .inl ⟨13, by decide, rfl⟩ | exact .inr rfl
theorem dropRS_is (p : Pl) (x : Sm) : (∃ e, e ≠ 0 ∧ dropRS p x = (e, x)) ∨ dropRS p x = (0, { x with rs := ldel rpl p x.rs }) := by
  unfold dropRS
  split
  · exact .inl ⟨8, by decide, rfl⟩
  · exact .inr rfl
/-- An act that is refused leaves all as it was. -/
theorem actS_bad {c : Cmd} {a' : Option Addr} {tc' : Nat} {x : Sm} (h : (actS c a' tc' x).1 ≠ 0) : (actS c a' tc' x).2 = x := by
  unfold actS at h ⊢
  split
  · rfl
  · rename_i h0
    rw [if_neg h0] at h
    split
    · rename_i h1
      rw [if_pos h1] at h
      rcases putPS_is ⟨⟨c.pool, c.ts⟩, a', tc'⟩ x with e | e
      · rw [e]
      · rw [e] at h; exact absurd rfl h
    · rename_i h1
      rw [if_neg h1] at h
      split
      · rename_i h2
        rw [if_pos h2] at h
        rcases dropPS_is c.pool x with ⟨y, _, e⟩ | e
        · rw [e]
        · rw [e] at h; exact absurd rfl h
      · rename_i h2
        rw [if_neg h2] at h
        split
        · rename_i h3
          rw [if_pos h3] at h
          rcases putRS_is ⟨c.host, c.pre, c.pool⟩ x with ⟨y, _, e⟩ | e
          · rw [e]
          · rw [e] at h; exact absurd rfl h
        · rename_i h3
          rw [if_neg h3] at h
          rcases dropRS_is (c.host, c.pre) x with ⟨y, _, e⟩ | e
          · rw [e]
          · rw [e] at h; exact absurd rfl h
theorem check_128R {c : Cmd} (h : checkC c = 0) : (c.host.size ≤ 128 ∧ c.pre.size ≤ 128 ∧ c.pool.size ≤ 128) ∧ ∀ t ∈ c.ts, t.1.size ≤ 128 := by
  obtain ⟨h1, h2, h3, h4, h5⟩ := check_parts h
  unfold unusedOk at h2
  unfold namesOk at h3
  simp only [Bool.and_eq_true, Bool.or_eq_true, Bool.not_eq_true', decide_eq_true_eq, decide_eq_false_iff_not] at h2 h3
  have hh : c.host.size ≤ 128 ∧ c.pre.size ≤ 128 := by
    rcases h3.1.1 with e | e
    · rcases h2.1.1 with e2 | e2
      · rw [e] at e2; cases e2
      · omega
    · refine ⟨?_, ?_⟩
      · have := e.1; unfold hostT at this; simp only [Bool.and_eq_true, decide_eq_true_eq] at this; omega
      · have := e.2; unfold prefT at this; simp only [Bool.and_eq_true] at this; exact made_size this.1
  have hl : c.pool.size ≤ 128 := by
    rcases h3.1.2 with e | e
    · rcases h2.1.2 with e2 | e2
      · exact absurd e e2
      · omega
    · have := made_size e; omega
  exact ⟨⟨hh.1, hh.2, hl⟩, fun t ht => by
    have := List.all_eq_true.1 h3.2 t ht
    have := made_size this
    omega⟩
theorem Smi.act {j : Nat} {x : Sm} (h : Smi j x) {c : Cmd} (hc : checkC c = 0) (a' : Option Addr) (tc' : Nat) :
    (actS c a' tc' x).2.ver = x.ver ∧ (actS c a' tc' x).2.cl = x.cl ∧ (actS c a' tc' x).2.ps.length ≤ j + 1 ∧ (actS c a' tc' x).2.rs.length ≤ j + 1 ∧ (∀ r ∈ (actS c a' tc' x).2.rs, r.h.size ≤ 128 ∧ r.p.size ≤ 128 ∧ r.l.size ≤ 128) ∧ (∀ p ∈ (actS c a' tc' x).2.ps, p.po.nm.size ≤ 128 ∧ p.po.ts.length ≤ 16 ∧ ∀ t ∈ p.po.ts, t.1.size ≤ 128) := by
  obtain ⟨⟨z1, z2, z3⟩, z4⟩ := check_128R hc
  have z5 := (check_parts hc).2.2.2.2
  have hpn := h.pn
  have hrn := h.rn
  have same : x.ver = x.ver ∧ x.cl = x.cl ∧ x.ps.length ≤ j + 1 ∧ x.rs.length ≤ j + 1 ∧ (∀ r ∈ x.rs, r.h.size ≤ 128 ∧ r.p.size ≤ 128 ∧ r.l.size ≤ 128) ∧ (∀ p ∈ x.ps, p.po.nm.size ≤ 128 ∧ p.po.ts.length ≤ 16 ∧ ∀ t ∈ p.po.ts, t.1.size ≤ 128) := ⟨rfl, rfl, by omega, by omega, h.rs, h.ps⟩
  unfold actS
  split
  · exact same
  split
  · rcases putPS_is ⟨⟨c.pool, c.ts⟩, a', tc'⟩ x with e | e
    · rw [e]; exact same
    · rw [e]
      refine ⟨rfl, rfl, ?_, by dsimp only; omega, h.rs, ?_⟩
      · have := lput_le qnm ⟨⟨c.pool, c.ts⟩, a', tc'⟩ x.ps; dsimp only; omega
      · intro p hp
        rcases mem_lput qnm _ p x.ps hp with rfl | hp
        · exact ⟨z3, z5, z4⟩
        · exact h.ps p hp
  split
  · rcases dropPS_is c.pool x with ⟨y, _, e⟩ | e
    · rw [e]; exact same
    · rw [e]
      refine ⟨rfl, rfl, ?_, by dsimp only; omega, h.rs, fun p hp => h.ps p (List.mem_filter.1 hp).1⟩
      have := List.length_filter_le (fun q => decide (qnm q ≠ c.pool)) x.ps
      show (List.filter _ _).length ≤ _
      omega
  split
  · rcases putRS_is ⟨c.host, c.pre, c.pool⟩ x with ⟨y, _, e⟩ | e
    · rw [e]; exact same
    · rw [e]
      refine ⟨rfl, rfl, by dsimp only; omega, ?_, ?_, h.ps⟩
      · have := lput_le rpl ⟨c.host, c.pre, c.pool⟩ x.rs; dsimp only; omega
      · intro r hr
        rcases mem_lput rpl _ r x.rs hr with rfl | hr
        · exact ⟨z1, z2, z3⟩
        · exact h.rs r hr
  · rcases dropRS_is (c.host, c.pre) x with ⟨y, _, e⟩ | e
    · rw [e]; exact same
    · rw [e]
      refine ⟨rfl, rfl, by dsimp only; omega, ?_, fun r hr => h.rs r (List.mem_filter.1 hr).1, h.ps⟩
      have := List.length_filter_le (fun q => decide (rpl q ≠ (c.host, c.pre))) x.rs
      show (List.filter _ _).length ≤ _
      omega
theorem Smi.done {j : Nat} {x : Sm} (h : Smi j x) {c : Cmd} (hc : checkC c = 0) (a' : Option Addr) (tc' : Nat) : Smi (j + 1) (doneS (actS c a' tc' x)).2 := by
  obtain ⟨h1, h2, h3, h4, h5, h6⟩ := h.act hc a' tc'
  have hv := h.vr
  have hcn := h.cn
  unfold doneS
  split
  · exact ⟨h3, h4, by dsimp only; rw [h2]; omega, by dsimp only; rw [h1]; omega, h5, h6⟩
  · exact ⟨h3, h4, by dsimp only; rw [h2]; omega, by dsimp only; rw [h1]; omega, h5, h6⟩
theorem Smi.do {j : Nat} {x : Sm} (h : Smi j x) (c : Cmd) (a' : Option Addr) (tc' : Nat) : Smi (j + 1) (doS c a' tc' x).2 := by
  by_cases hc : checkC c = 0
  · have hd := h.done hc a' tc'
    unfold doS
    rw [if_neg (by simp [hc])]
    split
    · exact hd
    split
    · exact h.mono (Nat.le_succ j)
    split
    · exact h.mono (Nat.le_succ j)
    · refine ⟨hd.pn, hd.rn, ?_, hd.vr, hd.rs, hd.ps⟩
      rw [doneS_cl]
      have := lput_le lid ⟨c.cli, c.seq, (doneS (actS c a' tc' x)).1.1, (doneS (actS c a' tc' x)).1.2⟩ x.cl
      have := h.cn
      dsimp only
      omega
  · unfold doS
    rw [if_pos hc]
    exact h.mono (Nat.le_succ j)
/-- Without a client: the version is one more where it is done, and nothing changes where it is refused. -/
theorem doS_ver {c : Cmd} (a' : Option Addr) (tc' : Nat) (x : Sm) (hcl : c.cli = 0) :
    ((doS c a' tc' x).1.1 = 0 ∧ (doS c a' tc' x).1.2 = x.ver + 1 ∧ (doS c a' tc' x).2.ver = x.ver + 1) ∨ ((doS c a' tc' x).1.1 ≠ 0 ∧ (doS c a' tc' x).1.2 = x.ver ∧ (doS c a' tc' x).2 = x) := by
  unfold doS
  split
  · rename_i h
    right
    exact ⟨by dsimp only; omega, rfl, rfl⟩
  · have hv := actS_ver c a' tc' x
    unfold doneS
    split
    · rename_i h
      left
      exact ⟨rfl, by dsimp only; rw [hv], by dsimp only; rw [hv]⟩
    · rename_i h
      right
      refine ⟨h, by dsimp only; rw [hv], actS_bad h⟩
def shortM (c : Cmd) : Bool := decide (c.ts.length ≤ 100) && (decide (c.host.size ≤ 1000) && (decide (c.pre.size ≤ 1000) && decide (c.pool.size ≤ 1000)))
set_option maxRecDepth 20000 in
set_option maxHeartbeats 4000000 in
theorem short8_calls (c : Cmd) (a : Option Addr) (tc : Nat) (w : World) (hn : c.ts.length ≤ maxLen) (z1 : c.host.size ≤ 140737488355328) (z2 : c.pre.size ≤ 140737488355328) (z3 : c.pool.size ≤ 140737488355328) :
    Calls Tryz.prog 20 #[cmdVal c a tc] w fun e w' => e = .returned (.bool (shortM c)) ∧ Below w.heap.size w w' := by
  unfold cmdVal shortM
  obtain ⟨act, cli, seq, exp, host, pre, pool, ts⟩ := c
  dsimp only at *
  have bX := hide (show Below w.heap.size w (w.alloc (.cells #[.int .i64 act, .int .i64 cli, .int .i64 seq, .int .i64 exp, .string host, .string pre, .string pool, .slice a ts.length tc] 25)) from (Below.refl _ _).alloc (Nat.le_refl _) _)
  have X1 := hide (heap_new w (.cells #[.int .i64 act, .int .i64 cli, .int .i64 seq, .int .i64 exp, .string host, .string pre, .string pool, .slice a ts.length tc] 25))
  have k4 := fcell0 (unhide X1) 4 (.string host) rfl
  have k5 := fcell0 (unhide X1) 5 (.string pre) rfl
  have k6 := fcell0 (unhide X1) 6 (.string pool) rfl
  have k7 := fcell0 (unhide X1) 7 (.slice a ts.length tc) rfl
  generalize ts.length = n at *
  generalize hz4 : host.size = m1 at *
  generalize hz5 : pre.size = m2 at *
  generalize hz6 : pool.size = m3 at *
  have HZ := hide (And.intro hz4 (And.intro hz5 hz6))
  by_cases h1 : n ≤ 100
  · have d1 : decide (n ≤ 100) = true := decide_eq_true h1
    have i1 : (n : Int) ≤ 100 := by omega
    by_cases h2 : m1 ≤ 1000
    · have d2 : decide (m1 ≤ 1000) = true := decide_eq_true h2
      have i2 : (m1 : Int) ≤ 1000 := by omega
      by_cases h3 : m2 ≤ 1000
      · have d3 : decide (m2 ≤ 1000) = true := decide_eq_true h3
        have i3 : (m2 : Int) ≤ 1000 := by omega
        by_cases h4 : m3 ≤ 1000
        · have d4 : decide (m3 ≤ 1000) = true := decide_eq_true h4
          have i4 : (m3 : Int) ≤ 1000 := by omega
          rw [d1, d2, d3, d4]
          go_enter Tryz.func20, Tryz.ntmps20
          go_wp2
          go_ret
          exact ⟨rfl, unhide bX⟩
        · have d4 : decide (m3 ≤ 1000) = false := decide_eq_false h4
          have i4 : ¬ (m3 : Int) ≤ 1000 := by omega
          rw [d1, d2, d3, d4]
          go_enter Tryz.func20, Tryz.ntmps20
          go_wp2
          go_ret
          exact ⟨rfl, unhide bX⟩
      · have d3 : decide (m2 ≤ 1000) = false := decide_eq_false h3
        have i3 : ¬ (m2 : Int) ≤ 1000 := by omega
        rw [d1, d2, d3]
        go_enter Tryz.func20, Tryz.ntmps20
        go_wp2
        go_ret
        exact ⟨rfl, unhide bX⟩
    · have d2 : decide (m1 ≤ 1000) = false := decide_eq_false h2
      have i2 : ¬ (m1 : Int) ≤ 1000 := by omega
      rw [d1, d2]
      go_enter Tryz.func20, Tryz.ntmps20
      go_wp2
      go_ret
      exact ⟨rfl, unhide bX⟩
  · have d1 : decide (n ≤ 100) = false := decide_eq_false h1
    have i1 : ¬ (n : Int) ≤ 100 := by omega
    rw [d1]
    go_enter Tryz.func20, Tryz.ntmps20
    go_wp2
    go_ret
    exact ⟨rfl, unhide bX⟩
end Go.Proofs.YtpkpnedcecjlbaaGreatDoor
end
/- Conf: a configuration that was told stays whatever a store does later. -/
section
namespace Go.Proofs.YtpkpnedcecjlbaaGreatDoor
open Go.ChangeShapes Go.WideShapes Go.ChangeAt Go.RowKit
set_option linter.unusedVariables false

theorem StAt.textC {w w' : World} {h : StH} {x : Sm} (s : StAt w h x) (c : Chg h w w') {b k : Nat} {t : ByteArray} (hc : w.cell? ⟨b, k, none⟩ = some (.string t)) : w'.heap[b]? = w.heap[b]? := by
  obtain ⟨g0, g1, g2, g3, g4⟩ := s.noText hc
  exact c.block b g0 g1 g2 g3 g4
theorem CfAt.chg {w w' : World} {h : StH} {x : Sm} (s : StAt w h x) (c : Chg h w w') {e : Cf} {k : CfH} (f : CfAt w e k) : CfAt w' e k := by
  refine ⟨f.wv, ⟨f.rts.sz, fun i hi => ?_⟩, ⟨fun i hi => ?_⟩, f.rl, f.pl, f.rz⟩
  · obtain ⟨b, off, e1, h1, h2, h3⟩ := f.rts.cell i hi
    have hb := s.textC c h1
    exact ⟨b, off, e1, (World.cell?_of_block hb).trans h1, (World.cell?_of_block hb).trans h2, (World.cell?_of_block hb).trans h3⟩
  · obtain ⟨b, off, ta, tc, e1, h1, h2, h3, h4⟩ := f.pos.cell i hi
    have hb := s.textC c h1
    exact ⟨b, off, ta, tc, e1, (World.cell?_of_block hb).trans h1, (World.cell?_of_block hb).trans h2, s.tgsC c h3, h4⟩
end Go.Proofs.YtpkpnedcecjlbaaGreatDoor
end
