/- Conf: done. -/
import Derived.Test.YtpkpnedcecjlbaaGreatDoorB28
namespace Go.Proofs.YtpkpnedcecjlbaaGreatDoor
open Go.ChangeShapes Go.WideShapes Go.ChangeAt Go.RowKit
set_option linter.unusedVariables false

def doneS (r : Int × Sm) : (Int × Int) × Sm := if r.1 = 0 then ((0, r.2.ver + 1), { r.2 with ver := r.2.ver + 1 }) else ((r.1, r.2.ver), r.2)
theorem actS_ver (c : Cmd) (a' : Option Addr) (tc' : Nat) (x : Sm) : (actS c a' tc' x).2.ver = x.ver := by
  unfold actS putPS dropPS putRS dropRS
  repeat' split
  all_goals rfl
theorem actS_err (c : Cmd) (a' : Option Addr) (tc' : Nat) (x : Sm) : 0 ≤ (actS c a' tc' x).1 ∧ (actS c a' tc' x).1 ≤ 13 := by
  unfold actS putPS dropPS putRS dropRS
  repeat' split
  all_goals simp
theorem StAt.aside {w w' : World} {h : StH} {x : Sm} (s : StAt w h x) {r : Nat} {cs : Array Value} {T : TypeId} (hg : w.grownBy w' (some r)) (hr : w.heap[r]? = some (.cells cs T (0, 0))) (hcs : ∀ (k : Nat) (t : ByteArray), cs[k]? ≠ some (Value.string t)) (hS : h.S ≠ r) : StAt w' h x := by
  have nm : ∀ (g : Nat) (es : Array MapEntry) (k : Nat), w.heap[g]? = some (Obj.map es k) → w'.heap[g]? = w.heap[g]? := fun g es k hm => hg.block g (Array.getElem?_eq_some_iff.1 hm).1 (fun e => by
    have := Option.some.inj e
    subst this
    rw [hr] at hm
    cases hm)
  obtain ⟨e1, k1, m1⟩ := s.pm.isMap
  obtain ⟨e2, k2, m2⟩ := s.rm.isMap
  obtain ⟨e3, k3, m3⟩ := s.cm.isMap
  refine ⟨(hg.block h.S (Array.getElem?_eq_some_iff.1 s.hd).1 (fun e => hS (Option.some.inj e))).trans s.hd, s.pm.same (nm _ _ _ m1), s.rm.same (nm _ _ _ m2), s.cm.same (nm _ _ _ m3), fun p hp => ⟨(s.tg p hp).lt, fun i hi => ?_⟩, s.ne⟩
  obtain ⟨b, off, e, h1, h2⟩ := (s.tg p hp).cell i hi
  have hb : b < w.heap.size := (s.noText h1).1
  have hne : b ≠ r := fun e => by
    subst e
    rw [cell_of_row _ _ _ _ _ _ hr] at h1
    exact hcs _ _ h1
  have hk := hg.block b hb (fun e => hne (Option.some.inj e))
  exact ⟨b, off, e, (World.cell?_of_block hk).trans h1, (World.cell?_of_block hk).trans h2⟩
theorem Chg.newer {h : StH} {w w1 w2 : World} {r : Nat} (c : Chg h w w1) (hg : w1.grownBy w2 (some r)) (hr : w.heap.size ≤ r) : Chg h w w2 :=
  ⟨hg.os.trans c.os, hg.tape.trans c.tape, hg.output.trans c.output, Nat.le_trans c.size hg.size, fun g hl h1 h2 h3 h4 => (hg.block g (Nat.lt_of_lt_of_le hl c.size) (fun e => by have := Option.some.inj e; omega)).trans (c.block g hl h1 h2 h3 h4)⟩
theorem res_text (a b : Int) : ∀ (k : Nat) (t : ByteArray), (#[Value.int .i64 a, Value.int .i64 b] : Array Value)[k]? ≠ some (.string t) := by
  intro k t e
  match k with
  | 0 => simp at e
  | 1 => simp at e
  | _ + 2 => simp at e
set_option maxRecDepth 20000 in
set_option maxHeartbeats 8000000 in
theorem done_calls {w : World} {h : StH} {x : Sm} (s : StAt w h x) (hx : SmOk x) (hv : x.ver + 1 ≤ 9223372036854775807) (c : Cmd) (a : Option Addr) (tc : Nat) (hc : CmdAt w c a tc) (hs : SmallCmd c) :
    Calls Tryz.prog 54 #[.pointer (some ⟨h.S, 0, none⟩), cmdVal c a tc] w fun e w' => ∃ a' tc', e = .returned (.agg #[.int .i64 (doneS (actS c a' tc' x)).1.1, .int .i64 (doneS (actS c a' tc' x)).1.2]) ∧ StAt w' h (doneS (actS c a' tc' x)).2 ∧ Chg h w w' := by
  have b1 : Below w.heap.size w (w.alloc (.cells (cmdRow c a tc) 25)) := (Below.refl _ _).alloc (Nat.le_refl _) _
  have b2 := b1.alloc b1.size (.cells #[.int .i64 0, .int .i64 0] 56)
  have s1 : (w.alloc (.cells (cmdRow c a tc) 25)).heap.size = w.heap.size + 1 := by simp
  have X1 := hide (show ((w.alloc (.cells (cmdRow c a tc) 25)).alloc (.cells #[.int .i64 0, .int .i64 0] 56)).heap[w.heap.size]? = some (.cells (cmdRow c a tc) 25 (0, 0)) by rw [Below.heap_alloc _ _ _ (by simp)]; exact heap_new _ _)
  have X2 := hide (show ((w.alloc (.cells (cmdRow c a tc) 25)).alloc (.cells #[.int .i64 0, .int .i64 0] 56)).heap[w.heap.size + 1]? = some (.cells #[.int .i64 0, .int .i64 0] 56 (0, 0)) by rw [← s1]; exact heap_new _ _)
  have Z2 := hide (show ((w.alloc (.cells (cmdRow c a tc) 25)).alloc (.cells #[.int .i64 0, .int .i64 0] 56)).heap.size = w.heap.size + 2 by simp)
  have B2 := hide b2
  have LT := hide s.lts
  have AC := hide (act_calls (s.later b2) hx c a tc (hc.later b2) hs)
  have AV := hide (fun a' tc' => actS_ver c a' tc' x)
  have AE := hide (fun a' tc' => actS_err c a' tc' x)
  have hv2 := hx.ver.1
  clear b1 b2 s1
  unfold cmdRow at *
  unfold cmdVal at *
  generalize actS c = AA at *
  obtain ⟨act, cli, seq, exp, host, pre, pool, ts⟩ := c
  simp only at *
  have k0 := fcell0 (unhide X1) 0 _ rfl
  have k1 := fcell0 (unhide X1) 1 _ rfl
  have k2 := fcell0 (unhide X1) 2 _ rfl
  have k3 := fcell0 (unhide X1) 3 _ rfl
  have k4 := fcell0 (unhide X1) 4 _ rfl
  have k5 := fcell0 (unhide X1) 5 _ rfl
  have k6 := fcell0 (unhide X1) 6 _ rfl
  have k7 := fcell0 (unhide X1) 7 _ rfl
  go_enter Tryz.func54, Tryz.ntmps54
  go_wp2_with fail
  generalize ((w.alloc (.cells #[.int .i64 act, .int .i64 cli, .int .i64 seq, .int .i64 exp, .string host, .string pre, .string pool, .slice a ts.length tc] 25)).alloc (.cells #[.int .i64 0, .int .i64 0] 56)) = V at *
  clear k0 k1 k2 k3 k4 k5 k6 k7
  refine (unhide AC).mono ?_
  rintro e U ⟨a', tc', rfl, sd, cd⟩
  obtain ⟨t1, t2, t3, t4⟩ := unhide LT
  have hR := hide (show U.heap[w.heap.size + 1]? = some (.cells #[.int .i64 0, .int .i64 0] 56 (0, 0)) from (cd.block (w.heap.size + 1) (by have := unhide Z2; omega) (by omega) (by omega) (by omega) (by omega)).trans (unhide X2))
  have CD := hide ((Chg.below (h := h) (unhide B2)).trans cd)
  have sv := unhide AV a' tc'
  have se := unhide AE a' tc'
  generalize hr : AA a' tc' x = r at *
  obtain ⟨er, y⟩ := r
  simp only at sd sv se ⊢
  have SD := hide sd
  have c0 := sd.cell.1
  rw [sv] at c0
  have SV := hide sv
  have HR := hide hr
  have L1 := hide (show h.S ≠ w.heap.size + 1 by omega)
  have z0 := fcell0 (unhide hR) 0 _ rfl
  have z1 := fcell0 (unhide hR) 1 _ rfl
  have f0 : U.frozen? ⟨w.heap.size + 1, 0, none⟩ = false := by simp [World.frozen?, unhide hR]
  have f1 : U.frozen? ⟨w.heap.size + 1, 1, none⟩ = false := by simp [World.frozen?, unhide hR]
  clear sd cd sv hr t1 t2 t3 t4 AC
  by_cases he : er = 0
  · as_aux_lemma =>
    subst he
    have hd : doneS (0, y) = ((0, x.ver + 1), { y with ver := x.ver + 1 }) := by unfold doneS; simp only [if_pos, unhide SV]
    have HD := hide hd
    have sV := (unhide SD).withV (x.ver + 1)
    have SW := hide sV.1
    have CW := hide ((unhide CD).trans sV.2)
    have hs0 := (unhide SD).hd
    have fS : U.frozen? ⟨h.S, 0, none⟩ = false := by simp [World.frozen?, hs0]
    have hR2 := hide (show (U.setCell ⟨h.S, 0, none⟩ (.int .i64 (x.ver + 1))).heap[w.heap.size + 1]? = some (.cells #[.int .i64 0, .int .i64 0] 56 (0, 0)) from (heap_setCell_other U ⟨h.S, 0, none⟩ (w.heap.size + 1) _ (fun e => unhide L1 e.symm)).trans (unhide hR))
    have y0 := sV.1.cell.1
    have y1 := fcell0 (unhide hR2) 0 _ rfl
    have y2 := fcell0 (unhide hR2) 1 _ rfl
    have g0 : (U.setCell ⟨h.S, 0, none⟩ (.int .i64 (x.ver + 1))).frozen? ⟨w.heap.size + 1, 0, none⟩ = false := by simp [World.frozen?, unhide hR2]
    have g1 : (U.setCell ⟨h.S, 0, none⟩ (.int .i64 (x.ver + 1))).frozen? ⟨w.heap.size + 1, 1, none⟩ = false := by simp [World.frozen?, unhide hR2]
    obtain ⟨a1, a2⟩ := set2 (x := .int .i64 0) (y := .int .i64 (x.ver + 1)) (unhide hR2)
    have A1 := hide a1
    have FS := hide ((unhide SW).aside a2 (unhide hR2) (res_text _ _) (unhide L1))
    have FC := hide ((unhide CW).newer a2 (by omega))
    clear a1 a2 sV hs0 hd z0 z1 f0 f1
    go_wp2
    generalize (((U.setCell ⟨h.S, 0, none⟩ (.int .i64 (x.ver + 1))).setCell ⟨w.heap.size + 1, 0, none⟩ (.int .i64 0)).setCell ⟨w.heap.size + 1, 1, none⟩ (.int .i64 (x.ver + 1))) = W9 at *
    clear y0 y1 y2 g0 g1 fS c0
    have o0 : W9.cell? ⟨w.heap.size + 1, 0, none⟩ = some (.int .i64 0) := fcell0 (unhide A1) 0 _ rfl
    have o1 : W9.cell? ⟨w.heap.size + 1, 1, none⟩ = some (.int .i64 (x.ver + 1)) := fcell0 (unhide A1) 1 _ rfl
    exact bodyPost_ret (v := .agg #[.int .i64 0, .int .i64 (x.ver + 1)]) (by simp [results, Tryz.results54, go_sem, o0, o1]) rfl ⟨a', tc', by rw [unhide HR, unhide HD], by rw [unhide HR, unhide HD]; exact unhide FS, unhide FC⟩
  · as_aux_lemma =>
    have hd : doneS (er, y) = ((er, x.ver), y) := by unfold doneS; simp only [if_neg he, unhide SV]
    have HD := hide hd
    obtain ⟨a1, a2⟩ := set2 (x := .int .i64 er) (y := .int .i64 x.ver) (unhide hR)
    have A1 := hide a1
    have FS := hide ((unhide SD).aside a2 (unhide hR) (res_text _ _) (unhide L1))
    have FC := hide ((unhide CD).newer a2 (by omega))
    clear a1 a2 hd
    go_wp2
    generalize ((U.setCell ⟨w.heap.size + 1, 0, none⟩ (.int .i64 er)).setCell ⟨w.heap.size + 1, 1, none⟩ (.int .i64 x.ver)) = W9 at *
    clear z0 z1 f0 f1 c0
    have o0 : W9.cell? ⟨w.heap.size + 1, 0, none⟩ = some (.int .i64 er) := fcell0 (unhide A1) 0 _ rfl
    have o1 : W9.cell? ⟨w.heap.size + 1, 1, none⟩ = some (.int .i64 x.ver) := fcell0 (unhide A1) 1 _ rfl
    exact bodyPost_ret (v := .agg #[.int .i64 er, .int .i64 x.ver]) (by simp [results, Tryz.results54, go_sem, o0, o1]) rfl ⟨a', tc', by rw [unhide HR, unhide HD], by rw [unhide HR, unhide HD]; exact unhide FS, unhide FC⟩
end Go.Proofs.YtpkpnedcecjlbaaGreatDoor
