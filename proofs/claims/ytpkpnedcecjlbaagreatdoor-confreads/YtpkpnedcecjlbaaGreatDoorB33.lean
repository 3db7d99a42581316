/- Conf: the document's SameCommand, of equal data. -/
import Derived.Test.YtpkpnedcecjlbaaGreatDoorB31
import Derived.Test.YtpkpnedcecjlbaaGreatDoorB32
namespace Go.Proofs.YtpkpnedcecjlbaaGreatDoor
open Go.ChangeShapes Go.WideShapes Go.ChangeAt Go.RowKit
set_option linter.unusedVariables false

set_option maxRecDepth 20000 in
set_option maxHeartbeats 8000000 in
theorem sameM_calls {w : World} {c : Cmd} {a a' : Option Addr} {t t' : Nat} (h1 : TgsAt w a c.ts) (h2 : TgsAt w a' c.ts) (hn : c.ts.length ≤ maxLen) (z : c.host.size ≤ 140737488355328 ∧ c.pre.size ≤ 140737488355328 ∧ c.pool.size ≤ 140737488355328) :
    Calls Tryz.prog 13 #[cmdVal c a t, cmdVal c a' t'] w fun e w' => e = .returned (.bool true) ∧ Below w.heap.size w w' := by
  obtain ⟨act, cli, seq, exp, host, pre, pool, ts⟩ := c
  unfold cmdVal
  dsimp only at *
  obtain ⟨z1, z2, z3⟩ := z
  have s1 : (w.alloc (.cells #[.int .i64 act, .int .i64 cli, .int .i64 seq, .int .i64 exp, .string host, .string pre, .string pool, .slice a ts.length t] 25)).heap.size = w.heap.size + 1 := by simp
  have b1 : Below w.heap.size w (w.alloc (.cells #[.int .i64 act, .int .i64 cli, .int .i64 seq, .int .i64 exp, .string host, .string pre, .string pool, .slice a ts.length t] 25)) := (Below.refl _ _).alloc (Nat.le_refl _) _
  have b2 : Below (w.alloc (.cells #[.int .i64 act, .int .i64 cli, .int .i64 seq, .int .i64 exp, .string host, .string pre, .string pool, .slice a ts.length t] 25)).heap.size (w.alloc (.cells #[.int .i64 act, .int .i64 cli, .int .i64 seq, .int .i64 exp, .string host, .string pre, .string pool, .slice a ts.length t] 25)) ((w.alloc (.cells #[.int .i64 act, .int .i64 cli, .int .i64 seq, .int .i64 exp, .string host, .string pre, .string pool, .slice a ts.length t] 25)).alloc (.cells #[.int .i64 act, .int .i64 cli, .int .i64 seq, .int .i64 exp, .string host, .string pre, .string pool, .slice a' ts.length t'] 25)) := (Below.refl _ _).alloc (Nat.le_refl _) _
  have X1 := later_block b2 (heap_new w (.cells #[.int .i64 act, .int .i64 cli, .int .i64 seq, .int .i64 exp, .string host, .string pre, .string pool, .slice a ts.length t] 25))
  have X2 := heap_new (w.alloc (.cells #[.int .i64 act, .int .i64 cli, .int .i64 seq, .int .i64 exp, .string host, .string pre, .string pool, .slice a ts.length t] 25)) (.cells #[.int .i64 act, .int .i64 cli, .int .i64 seq, .int .i64 exp, .string host, .string pre, .string pool, .slice a' ts.length t'] 25)
  rw [s1] at X2
  have B2 := hide (b1.trans (b2.mono b1.size))
  have ST := hide (sameT_calls (h1.later (unhide B2)) (h2.later (unhide B2)) ts.length t t' rfl hn)

  have p0 := fcell0 X1 0 (.int .i64 act) rfl
  have q0 := fcell0 X2 0 (.int .i64 act) rfl
  have p1 := fcell0 X1 1 (.int .i64 cli) rfl
  have q1 := fcell0 X2 1 (.int .i64 cli) rfl
  have p2 := fcell0 X1 2 (.int .i64 seq) rfl
  have q2 := fcell0 X2 2 (.int .i64 seq) rfl
  have p3 := fcell0 X1 3 (.int .i64 exp) rfl
  have q3 := fcell0 X2 3 (.int .i64 exp) rfl
  have p4 := fcell0 X1 4 (.string host) rfl
  have q4 := fcell0 X2 4 (.string host) rfl
  have p5 := fcell0 X1 5 (.string pre) rfl
  have q5 := fcell0 X2 5 (.string pre) rfl
  have p6 := fcell0 X1 6 (.string pool) rfl
  have q6 := fcell0 X2 6 (.string pool) rfl
  have p7 := fcell0 X1 7 (.slice a ts.length t) rfl
  have q7 := fcell0 X2 7 (.slice a' ts.length t') rfl
  clear h1 h2 hn s1 b1 b2 X1 X2
  generalize ts.length = n at *
  go_enter Tryz.func13, Tryz.ntmps13
  go_wp2_with fail
  refine (unhide ST).mono ?_
  rintro e V ⟨rfl, v⟩
  have F := hide ((unhide B2).trans (v.mono (unhide B2).size))
  clear v ST
  go_wp2
  go_ret
  exact ⟨rfl, unhide F⟩
end Go.Proofs.YtpkpnedcecjlbaaGreatDoor
