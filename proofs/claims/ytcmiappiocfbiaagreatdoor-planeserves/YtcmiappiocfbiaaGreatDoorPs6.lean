/- Plane: Serve of a plane. -/
import Derived.Test.YtcmiappiocfbiaaGreatDoorPs5
import Derived.Test.YtcmiappiocfbiaaGreatDoorPlk
namespace Go.Proofs.YtcmiappiocfbiaaGreatDoor
open Go.ChangeShapes Go.WideShapes Go.ChangeAt Go.RowKit
set_option linter.unusedVariables false

/-- A plane with its configuration. -/
structure PlAt (w : World) (P : Nat) (e : Cf) (h : CfH) : Prop where
  row : w.heap[P]? = some (.cells #[.int .i64 e.ver, .slice h.ra e.rs.length h.rc, .slice h.pa e.ps.length h.pc] 54 (0, 0))
  cf : CfAt w e h
theorem PlAt.later {w w' : World} {P : Nat} {e : Cf} {h : CfH} (x : PlAt w P e h) (hb : Below w.heap.size w w') : PlAt w' P e h := ⟨later_block hb x.row, x.cf.later hb⟩
set_option maxRecDepth 20000 in
set_option maxHeartbeats 8000000 in
theorem serve_calls {w : World} {P : Nat} {e : Cf} {h : CfH} (hp : PlAt w P e h) (ht : ∀ y ∈ e.ps, y.ts.length ≤ 1000) (ba : Option Addr) (bc d : Nat) (l : List Nat) (hb : BytesAt w ba l) (hc : l.length ≤ bc) (hz : ba = none → bc = 0) (hL : Lz w) (hd : d < 18446744073709551616) :
    Calls Tryz.prog 10 #[.pointer (some ⟨P, 0, none⟩), .slice ba l.length bc, .float .f64 d] w fun r w' => r = .returned (.agg #[.int .i64 (serveL l e.rs e.ps d).1, .int .i64 e.ver, .string (serveL l e.rs e.ps d).2.1, .string (serveL l e.rs e.ps d).2.2]) ∧ Below w.heap.size w w' := by
  obtain ⟨row, cf⟩ := hp
  obtain ⟨ver, rs, ps⟩ := e
  obtain ⟨ra, rc, pa, pc⟩ := h
  obtain ⟨wv, rts, pos, ⟨rl, rl2⟩, ⟨pl, pl2⟩, rz⟩ := cf
  dsimp only at *
  have hP := (Array.getElem?_eq_some_iff.1 row).1
  have b1 : Below w.heap.size w (w.alloc (.cells #[.int .i64 0, .int .i64 0, .string ⟨#[]⟩, .string ⟨#[]⟩] 43)) := (Below.refl _ _).alloc (Nat.le_refl _) _
  have y1 := heap_new w (.cells #[.int .i64 0, .int .i64 0, .string ⟨#[]⟩, .string ⟨#[]⟩] 43)
  have s1 : (w.alloc (.cells #[.int .i64 0, .int .i64 0, .string ⟨#[]⟩, .string ⟨#[]⟩] 43)).heap.size = w.heap.size + 1 := by simp
  generalize hW1 : w.alloc (.cells #[.int .i64 0, .int .i64 0, .string ⟨#[]⟩, .string ⟨#[]⟩] 43) = W1 at *
  have row1 := later_block b1 row
  have q0 := box_cell row1 0 _ rfl
  have q1 := box_cell row1 1 _ rfl
  have q2 := box_cell row1 2 _ rfl
  have hw1 : w.alloc (.cells #[.int .i64 0, .int .i64 0, .string ⟨#[]⟩, .string ⟨#[]⟩] 43) = W1 := hW1
  clear hW1
  have y2 := heap_new W1 (.cells (ansC ver ra rs.length rc pa ps.length pc ba l.length bc d ⟨#[]⟩ ⟨#[]⟩ ⟨#[]⟩ ⟨#[]⟩ none 0 0 0 0 ⟨#[]⟩ ⟨#[]⟩) 60)
  rw [s1] at y2
  have b2 : Below W1.heap.size W1 (W1.alloc (.cells (ansC ver ra rs.length rc pa ps.length pc ba l.length bc d ⟨#[]⟩ ⟨#[]⟩ ⟨#[]⟩ ⟨#[]⟩ none 0 0 0 0 ⟨#[]⟩ ⟨#[]⟩) 60)) := (Below.refl _ _).alloc (Nat.le_refl _) _
  have s2 : (W1.alloc (.cells (ansC ver ra rs.length rc pa ps.length pc ba l.length bc d ⟨#[]⟩ ⟨#[]⟩ ⟨#[]⟩ ⟨#[]⟩ none 0 0 0 0 ⟨#[]⟩ ⟨#[]⟩) 60)).heap.size = w.heap.size + 1 + 1 := by rw [← s1]; simp
  have y3 := heap_new (W1.alloc (.cells (ansC ver ra rs.length rc pa ps.length pc ba l.length bc d ⟨#[]⟩ ⟨#[]⟩ ⟨#[]⟩ ⟨#[]⟩ none 0 0 0 0 ⟨#[]⟩ ⟨#[]⟩) 60)) (.cells #[.func (.func 18) #[.pointer (some ⟨w.heap.size + 1, 0, none⟩)] #[], .func (.func 19) #[.pointer (some ⟨w.heap.size + 1, 0, none⟩)] #[], .func (.func 20) #[.pointer (some ⟨w.heap.size + 1, 0, none⟩)] #[]] 46)
  rw [s2] at y3
  have b3 : Below (W1.alloc (.cells (ansC ver ra rs.length rc pa ps.length pc ba l.length bc d ⟨#[]⟩ ⟨#[]⟩ ⟨#[]⟩ ⟨#[]⟩ none 0 0 0 0 ⟨#[]⟩ ⟨#[]⟩) 60)).heap.size (W1.alloc (.cells (ansC ver ra rs.length rc pa ps.length pc ba l.length bc d ⟨#[]⟩ ⟨#[]⟩ ⟨#[]⟩ ⟨#[]⟩ none 0 0 0 0 ⟨#[]⟩ ⟨#[]⟩) 60)) ((W1.alloc (.cells (ansC ver ra rs.length rc pa ps.length pc ba l.length bc d ⟨#[]⟩ ⟨#[]⟩ ⟨#[]⟩ ⟨#[]⟩ none 0 0 0 0 ⟨#[]⟩ ⟨#[]⟩) 60)).alloc (.cells #[.func (.func 18) #[.pointer (some ⟨w.heap.size + 1, 0, none⟩)] #[], .func (.func 19) #[.pointer (some ⟨w.heap.size + 1, 0, none⟩)] #[], .func (.func 20) #[.pointer (some ⟨w.heap.size + 1, 0, none⟩)] #[]] 46)) := (Below.refl _ _).alloc (Nat.le_refl _) _
  have B3 : Below w.heap.size w ((W1.alloc (.cells (ansC ver ra rs.length rc pa ps.length pc ba l.length bc d ⟨#[]⟩ ⟨#[]⟩ ⟨#[]⟩ ⟨#[]⟩ none 0 0 0 0 ⟨#[]⟩ ⟨#[]⟩) 60)).alloc (.cells #[.func (.func 18) #[.pointer (some ⟨w.heap.size + 1, 0, none⟩)] #[], .func (.func 19) #[.pointer (some ⟨w.heap.size + 1, 0, none⟩)] #[], .func (.func 20) #[.pointer (some ⟨w.heap.size + 1, 0, none⟩)] #[]] 46)) := b1.trans ((b2.trans (b3.mono b2.size)).mono b1.size)
  have FC := firstOf_calls (A := w.heap.size + 1) (S := w.heap.size + 1 + 1) (ver := ver) (rc := rc) (pc := pc) (W := (W1.alloc (.cells (ansC ver ra rs.length rc pa ps.length pc ba l.length bc d ⟨#[]⟩ ⟨#[]⟩ ⟨#[]⟩ ⟨#[]⟩ none 0 0 0 0 ⟨#[]⟩ ⟨#[]⟩) 60)).alloc (.cells #[.func (.func 18) #[.pointer (some ⟨w.heap.size + 1, 0, none⟩)] #[], .func (.func 19) #[.pointer (some ⟨w.heap.size + 1, 0, none⟩)] #[], .func (.func 20) #[.pointer (some ⟨w.heap.size + 1, 0, none⟩)] #[]] 46)) (SvAt.mk (by omega) B3 rts pos rl pl ht hd hb hc hz hL) (later_block b3 y2) (by omega) y3
  have y1' := later_block b3 (later_block b2 y1)
  have rowP := later_block B3 row
  have S3 : w.heap.size + 1 < ((W1.alloc (.cells (ansC ver ra rs.length rc pa ps.length pc ba l.length bc d ⟨#[]⟩ ⟨#[]⟩ ⟨#[]⟩ ⟨#[]⟩ none 0 0 0 0 ⟨#[]⟩ ⟨#[]⟩) 60)).alloc (.cells #[.func (.func 18) #[.pointer (some ⟨w.heap.size + 1, 0, none⟩)] #[], .func (.func 19) #[.pointer (some ⟨w.heap.size + 1, 0, none⟩)] #[], .func (.func 20) #[.pointer (some ⟨w.heap.size + 1, 0, none⟩)] #[]] 46)).heap.size := by have := b3.size; omega
  have hPs : P < ((W1.alloc (.cells (ansC ver ra rs.length rc pa ps.length pc ba l.length bc d ⟨#[]⟩ ⟨#[]⟩ ⟨#[]⟩ ⟨#[]⟩ none 0 0 0 0 ⟨#[]⟩ ⟨#[]⟩) 60)).alloc (.cells #[.func (.func 18) #[.pointer (some ⟨w.heap.size + 1, 0, none⟩)] #[], .func (.func 19) #[.pointer (some ⟨w.heap.size + 1, 0, none⟩)] #[], .func (.func 20) #[.pointer (some ⟨w.heap.size + 1, 0, none⟩)] #[]] 46)).heap.size := by omega
  unfold FoEnd at FC
  generalize serveL l rs ps d = sv at *
  obtain ⟨st, pool, addr⟩ := sv
  have FC := hide FC
  have BB := hide B3
  have Y1 := hide y1'
  have RP := hide rowP
  unfold ansC at FC BB Y1 RP S3 hPs
  clear y1 y2 y3 b2 b3 B3 y1' rowP rts pos row row1 hb hL ht s2 b1 rl2 pl2
  dsimp only at *
  go_enter Tryz.func10, Tryz.ntmps10
  go_wp2_with fail
  go_at_call 17
  refine (unhide FC).mono ?_
  rintro e V ⟨rfl, m, p, q, x, fa, fn, fc, R⟩
  have R := hide R
  have VR := (((unhide R).gr.block w.heap.size (by omega) (fun e => by have := Option.some.inj e; omega)).trans (unhide Y1))
  have VP := (((unhide R).gr.block P hPs (fun e => by have := Option.some.inj e; omega)).trans (unhide RP))
  have v0 := box_cell VP 0 _ rfl
  have a10 := (unhide R).cell 10 (.int .i64 0) rfl
  have a11 := (unhide R).cell 11 (.int .i64 0) rfl
  have f10 := (unhide R).froz 10
  have f11 := (unhide R).froz 11
  have a12 := (unhide R).cell 12 (.string pool) rfl
  have a13 := (unhide R).cell 13 (.string addr) rfl
  have z0 := box_cell VR 0 _ rfl
  have z1 := box_cell VR 1 _ rfl
  have z2 := box_cell VR 2 _ rfl
  have z3 := box_cell VR 3 _ rfl
  have g0 := froz_of VR 0
  have g1 := froz_of VR 1
  have g2 := froz_of VR 2
  have g3 := froz_of VR 3
  have hne : w.heap.size ≠ w.heap.size + 1 := by omega
  have hne' : w.heap.size + 1 ≠ w.heap.size := by omega
  clear VP
  have VR := hide VR
  go_wp2_with fail
  clear z0 z1 z2 z3 g0 g1 g2 g3 a10 a11 a12 a13 f10 f11 v0
  have VB := (((((((unhide BB).grown (unhide R).gr (unhide BB).size (fun k e => by have := Option.some.inj e; omega)).setCell (p := ⟨w.heap.size + 1, 10, none⟩) (by simp) (.int .i64 st)).setCell (p := ⟨w.heap.size + 1, 11, none⟩) (by simp) (.int .i64 ver)).setCell (p := ⟨w.heap.size, 0, none⟩) (by simp) (.int .i64 st)).setCell (p := ⟨w.heap.size, 1, none⟩) (by simp) (.int .i64 ver)).setCell (p := ⟨w.heap.size, 2, none⟩) (by simp) (.string pool)).setCell (p := ⟨w.heap.size, 3, none⟩) (by simp) (.string addr)
  have VR2 := (heap_setCell_other (V.setCell ⟨w.heap.size + 1, 10, none⟩ (.int .i64 st)) ⟨w.heap.size + 1, 11, none⟩ w.heap.size (.int .i64 ver) hne).trans ((heap_setCell_other V ⟨w.heap.size + 1, 10, none⟩ w.heap.size (.int .i64 st) hne).trans (unhide VR))
  have Z := heap_setCell_same _ w.heap.size 3 _ _ (.string addr) (heap_setCell_same _ w.heap.size 2 _ _ (.string pool) (heap_setCell_same _ w.heap.size 1 _ _ (.int .i64 ver) (heap_setCell_same _ w.heap.size 0 _ _ (.int .i64 st) VR2)))
  have k0 := box_cell Z 0 (.int .i64 st) rfl
  have k1 := box_cell Z 1 (.int .i64 ver) rfl
  have k2 := box_cell Z 2 (.string pool) rfl
  have k3 := box_cell Z 3 (.string addr) rfl
  clear Z VR2 VR R
  generalize hVV : ((((((V.setCell ⟨w.heap.size + 1, 10, none⟩ (.int .i64 st)).setCell ⟨w.heap.size + 1, 11, none⟩ (.int .i64 ver)).setCell ⟨w.heap.size, 0, none⟩ (.int .i64 st)).setCell ⟨w.heap.size, 1, none⟩ (.int .i64 ver)).setCell ⟨w.heap.size, 2, none⟩ (.string pool)).setCell ⟨w.heap.size, 3, none⟩ (.string addr)) = VV at *
  refine bodyPost_ret (v := .agg #[.int .i64 st, .int .i64 ver, .string pool, .string addr]) (by simp [results, Tryz.results10, go_sem, k0, k1, k2, k3]) rfl ⟨rfl, VB⟩
end Go.Proofs.YtcmiappiocfbiaaGreatDoor
