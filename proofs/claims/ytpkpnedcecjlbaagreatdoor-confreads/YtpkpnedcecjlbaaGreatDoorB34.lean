/- Conf: the law's own example. -/
import Derived.Test.YtpkpnedcecjlbaaGreatDoorB29
import Derived.Test.YtpkpnedcecjlbaaGreatDoorB14
import Derived.Test.YtpkpnedcecjlbaaGreatDoorB30
import Derived.Test.YtpkpnedcecjlbaaGreatDoorB15
import Derived.Test.YtpkpnedcecjlbaaGreatDoorRows
import Derived.HandedShaped
import Derived.Handed
import Derived.MakeChecks
section
namespace Go.Proofs.YtpkpnedcecjlbaaGreatDoor
open Go.ChangeShapes Go.WideShapes Go.ChangeAt Go.RowKit
set_option linter.unusedVariables false

def xC1 : Cmd := ⟨1, 0, 0, -1, ⟨#[]⟩, ⟨#[]⟩, ⟨#[97]⟩, [(⟨#[116]⟩, 4607182418800017408)]⟩
def xC2 : Cmd := ⟨3, 0, 0, -1, ⟨#[120, 46, 121]⟩, ⟨#[47]⟩, ⟨#[97]⟩, []⟩
def xC3 : Cmd := ⟨2, 0, 0, -1, ⟨#[]⟩, ⟨#[]⟩, ⟨#[97]⟩, []⟩
def xS1 (a : Option Addr) (t : Nat) : Sm := ⟨1, [⟨⟨⟨#[97]⟩, [(⟨#[116]⟩, 4607182418800017408)]⟩, a, t⟩], [], []⟩
def xS2 (a : Option Addr) (t : Nat) : Sm := ⟨2, [⟨⟨⟨#[97]⟩, [(⟨#[116]⟩, 4607182418800017408)]⟩, a, t⟩], [⟨⟨#[120, 46, 121]⟩, ⟨#[47]⟩, ⟨#[97]⟩⟩], []⟩
theorem x_check : checkC xC1 = 0 ∧ checkC xC2 = 0 ∧ checkC xC3 = 0 := by decide
theorem x_conf1 : (confB sm0.cf).length = 2 ∧ (poolB ⟨⟨#[97]⟩, [(⟨#[116]⟩, 4607182418800017408)]⟩).length = 13 := by decide
theorem x_do1 (a : Option Addr) (t : Nat) : doneS (actS xC1 a t sm0) = ((0, 1), xS1 a t) := by kernel_rfl
theorem x_do2 (a b : Option Addr) (t u : Nat) : doneS (actS xC2 b u (xS1 a t)) = ((0, 2), xS2 a t) := by kernel_rfl
theorem x_do3 (a b : Option Addr) (t u : Nat) : doneS (actS xC3 b u (xS2 a t)) = ((13, 2), xS2 a t) := by kernel_rfl
def poolC (nm : ByteArray) : Cmd := ⟨1, 0, 0, -1, ⟨#[]⟩, ⟨#[]⟩, nm, [(⟨#[116]⟩, 4607182418800017408)]⟩
def routeC (h p l : ByteArray) : Cmd := ⟨3, 0, 0, -1, h, p, l, []⟩
set_option maxRecDepth 20000 in
set_option maxHeartbeats 4000000 in
theorem lpool_calls (w : World) (nm : ByteArray) : Calls Tryz.prog 17 #[.string nm] w fun e w' => ∃ B, e = .returned (cmdVal (poolC nm) (some ⟨B, 0, none⟩) 1) ∧ TgsAt w' (some ⟨B, 0, none⟩) (poolC nm).ts ∧ Below w.heap.size w w' := by
  have b1 : Below w.heap.size w (w.alloc (.cells #[.int .i64 1, .int .i64 0, .int .i64 0, .int .i64 (-1), .string ⟨#[]⟩, .string ⟨#[]⟩, .string nm, .slice (some ⟨w.heap.size + 1, 0, none⟩) 1 1] 25)) := (Below.refl _ _).alloc (Nat.le_refl _) _
  have b2 := hide (b1.alloc b1.size (.cells #[.string ⟨#[116]⟩, .float .f64 4607182418800017408] 43))
  have s1 : (w.alloc (.cells #[.int .i64 1, .int .i64 0, .int .i64 0, .int .i64 (-1), .string ⟨#[]⟩, .string ⟨#[]⟩, .string nm, .slice (some ⟨w.heap.size + 1, 0, none⟩) 1 1] 25)).heap.size = w.heap.size + 1 := by simp
  have X1 : ((w.alloc (.cells #[.int .i64 1, .int .i64 0, .int .i64 0, .int .i64 (-1), .string ⟨#[]⟩, .string ⟨#[]⟩, .string nm, .slice (some ⟨w.heap.size + 1, 0, none⟩) 1 1] 25)).alloc (.cells #[.string ⟨#[116]⟩, .float .f64 4607182418800017408] 43)).heap[w.heap.size]? = some (.cells #[.int .i64 1, .int .i64 0, .int .i64 0, .int .i64 (-1), .string ⟨#[]⟩, .string ⟨#[]⟩, .string nm, .slice (some ⟨w.heap.size + 1, 0, none⟩) 1 1] 25 (0, 0)) := by rw [Below.heap_alloc _ _ _ (by simp)]; exact heap_new _ _
  have X2 : ((w.alloc (.cells #[.int .i64 1, .int .i64 0, .int .i64 0, .int .i64 (-1), .string ⟨#[]⟩, .string ⟨#[]⟩, .string nm, .slice (some ⟨w.heap.size + 1, 0, none⟩) 1 1] 25)).alloc (.cells #[.string ⟨#[116]⟩, .float .f64 4607182418800017408] 43)).heap[w.heap.size + 1]? = some (.cells #[.string ⟨#[116]⟩, .float .f64 4607182418800017408] 43 (0, 0)) := by
    have h := heap_new (w.alloc (.cells #[.int .i64 1, .int .i64 0, .int .i64 0, .int .i64 (-1), .string ⟨#[]⟩, .string ⟨#[]⟩, .string nm, .slice (some ⟨w.heap.size + 1, 0, none⟩) 1 1] 25)) (.cells #[.string ⟨#[116]⟩, .float .f64 4607182418800017408] 43)
    rw [s1] at h
    exact h
  have g0 := fcell0 X1 0 _ rfl
  have g1 := fcell0 X1 1 _ rfl
  have g2 := fcell0 X1 2 _ rfl
  have g3 := fcell0 X1 3 _ rfl
  have g4 := fcell0 X1 4 _ rfl
  have g5 := fcell0 X1 5 _ rfl
  have g6 := fcell0 X1 6 _ rfl
  have g7 := fcell0 X1 7 _ rfl
  have t0 := fcell0 X2 0 _ rfl
  have t1 := fcell0 X2 1 _ rfl
  have TG := hide (show TgsAt ((w.alloc (.cells #[.int .i64 1, .int .i64 0, .int .i64 0, .int .i64 (-1), .string ⟨#[]⟩, .string ⟨#[]⟩, .string nm, .slice (some ⟨w.heap.size + 1, 0, none⟩) 1 1] 25)).alloc (.cells #[.string ⟨#[116]⟩, .float .f64 4607182418800017408] 43)) (some ⟨w.heap.size + 1, 0, none⟩) (poolC nm).ts from ⟨by simp [poolC], fun i hi => by
    obtain rfl : i = 0 := by simp [poolC] at hi; omega
    exact ⟨w.heap.size + 1, 0, rfl, t0, t1⟩⟩)
  clear b1 s1 X1 X2 t0 t1
  go_enter Tryz.func17, Tryz.ntmps17
  go_wp2
  exact bodyPost_ret (v := .agg #[.int .i64 1, .int .i64 0, .int .i64 0, .int .i64 (-1), .string ⟨#[]⟩, .string ⟨#[]⟩, .string nm, .slice (some ⟨w.heap.size + 1, 0, none⟩) 1 1]) (by simp [results, Tryz.results17, go_sem, g0, g1, g2, g3, g4, g5, g6, g7]) rfl ⟨w.heap.size + 1, rfl, unhide TG, unhide b2⟩
set_option maxRecDepth 20000 in
set_option maxHeartbeats 4000000 in
theorem lroute_calls (w : World) (h p l : ByteArray) : Calls Tryz.prog 30 #[.string h, .string p, .string l] w fun e w' => e = .returned (cmdVal (routeC h p l) none 0) ∧ Below w.heap.size w w' := by
  have b1 := hide (show Below w.heap.size w (w.alloc (.cells #[.int .i64 3, .int .i64 0, .int .i64 0, .int .i64 (-1), .string h, .string p, .string l, .slice none 0 0] 25)) from (Below.refl _ _).alloc (Nat.le_refl _) _)
  have X1 := heap_new w (.cells #[.int .i64 3, .int .i64 0, .int .i64 0, .int .i64 (-1), .string h, .string p, .string l, .slice none 0 0] 25)
  have g0 := fcell0 X1 0 _ rfl
  have g1 := fcell0 X1 1 _ rfl
  have g2 := fcell0 X1 2 _ rfl
  have g3 := fcell0 X1 3 _ rfl
  have g4 := fcell0 X1 4 _ rfl
  have g5 := fcell0 X1 5 _ rfl
  have g6 := fcell0 X1 6 _ rfl
  have g7 := fcell0 X1 7 _ rfl
  clear X1
  go_enter Tryz.func30, Tryz.ntmps30
  go_wp2
  exact bodyPost_ret (v := .agg #[.int .i64 3, .int .i64 0, .int .i64 0, .int .i64 (-1), .string h, .string p, .string l, .slice none 0 0]) (by simp [results, Tryz.results30, go_sem, g0, g1, g2, g3, g4, g5, g6, g7]) rfl ⟨rfl, unhide b1⟩
end Go.Proofs.YtpkpnedcecjlbaaGreatDoor
end
/- Conf: a nil store. -/
section
namespace Go.Proofs.YtpkpnedcecjlbaaGreatDoor
open Go.ChangeShapes Go.WideShapes Go.ChangeAt Go.RowKit
set_option linter.unusedVariables false

end Go.Proofs.YtpkpnedcecjlbaaGreatDoor
end
/- Conf: live. -/
section
namespace Go.Proofs.YtpkpnedcecjlbaaGreatDoor
open Go.ChangeShapes Go.WideShapes Go.ChangeAt Go.RowKit
set_option linter.unusedVariables false

theorem Chg.toBelow {h : StH} {w w1 w2 : World} (b : Below w.heap.size w w1) (c : Chg h w1 w2) (hn : w.heap.size ≤ h.S ∧ w.heap.size ≤ h.P ∧ w.heap.size ≤ h.R ∧ w.heap.size ≤ h.C) : Below w.heap.size w w2 := by
  obtain ⟨n1, n2, n3, n4⟩ := hn
  exact ⟨c.os.trans b.os, c.tape.trans b.tape, c.output.trans b.output, Nat.le_trans b.size c.size, fun g hg => (c.block g (Nat.lt_of_lt_of_le hg b.size) (by omega) (by omega) (by omega) (by omega)).trans (b.block g hg)⟩
theorem x_dos1 (a : Option Addr) (t : Nat) : doS (poolC ⟨#[97]⟩) a t sm0 = ((0, 1), xS1 a t) := by kernel_rfl
theorem x_dos2 (a b : Option Addr) (t u : Nat) : doS (routeC ⟨#[120, 46, 121]⟩ ⟨#[47]⟩ ⟨#[97]⟩) b u (xS1 a t) = ((0, 2), xS2 a t) := by kernel_rfl
theorem x_dos3 (a b : Option Addr) (t u : Nat) : doS xC3 b u (xS2 a t) = ((13, 2), xS2 a t) := by kernel_rfl
theorem xS1_ok (a : Option Addr) (t : Nat) : SmOk (xS1 a t) := ⟨⟨by simp [xS1, Sm.cf], by simp [xS1, Sm.cf], by simp [xS1, Sm.cf], by simp [xS1, Sm.cf]; decide⟩, by simp [xS1], by simp [xS1]⟩
theorem xS2_ok (a : Option Addr) (t : Nat) : SmOk (xS2 a t) := ⟨⟨by simp [xS2, Sm.cf], by simp [xS2, Sm.cf], by simp [xS2, Sm.cf]; decide, by simp [xS2, Sm.cf]; decide⟩, by simp [xS2], by simp [xS2]⟩
theorem poolC_at {w : World} {B : Nat} (h : TgsAt w (some ⟨B, 0, none⟩) (poolC ⟨#[97]⟩).ts) : CmdAt w (poolC ⟨#[97]⟩) (some ⟨B, 0, none⟩) 1 := ⟨h, by simp [poolC]; decide, by decide, by decide, by decide, ⟨by simp [poolC, maxLen], by simp [poolC]⟩, by simp, by simp [poolC], by simp [poolC], by simp [poolC], by simp [poolC]⟩
theorem tgs_nil (w : World) : TgsAt w none [] := ⟨by simp, fun i hi => by simp at hi⟩
theorem routeC_at (w : World) : CmdAt w (routeC ⟨#[120, 46, 121]⟩ ⟨#[47]⟩ ⟨#[97]⟩) none 0 := ⟨tgs_nil w, by simp [routeC], by decide, by decide, by decide, ⟨by simp [routeC], by simp [routeC]⟩, by simp, by simp [routeC], by simp [routeC], by simp [routeC], by simp [routeC]⟩
theorem xC3_at (w : World) : CmdAt w xC3 none 0 := ⟨tgs_nil w, by simp [xC3], by decide, by decide, by decide, ⟨by simp [xC3], by simp [xC3]⟩, by simp, by simp [xC3], by simp [xC3], by simp [xC3], by simp [xC3]⟩
theorem eqRes1 (W : World) : (binOp .eql 56 (.agg #[.int .i64 0, .int .i64 1]) (.agg #[.int .i64 0, .int .i64 1])).run Tryz.prog W = .ok (.bool true) W := by kernel_rfl
theorem eqRes2 (W : World) : (binOp .eql 56 (.agg #[.int .i64 0, .int .i64 2]) (.agg #[.int .i64 0, .int .i64 2])).run Tryz.prog W = .ok (.bool true) W := by kernel_rfl
theorem eqRes3 (W : World) : (binOp .eql 56 (.agg #[.int .i64 13, .int .i64 2]) (.agg #[.int .i64 13, .int .i64 2])).run Tryz.prog W = .ok (.bool true) W := by kernel_rfl
set_option maxRecDepth 20000 in
set_option maxHeartbeats 8000000 in
theorem live8_calls (w : World) (hm : Mx w) : Calls Tryz.prog 10 #[] w fun e w' => e = .returned (.bool true) ∧ Below w.heap.size w w' := by
  have MX := hide (fun (W : World) (hb : Below w.heap.size w W) => hm.later hb)
  have NC := hide (new8_calls w)
  clear hm
  go_enter Tryz.func10, Tryz.ntmps10
  go_wp2_with fail
  refine (unhide NC).mono ?_
  rintro e V1 ⟨h, rfl, s1, b1, hS, hP, hR, hC⟩
  have NN := hide (show w.heap.size ≤ h.S ∧ w.heap.size ≤ h.P ∧ w.heap.size ≤ h.R ∧ w.heap.size ≤ h.C from ⟨hS, hP, hR, hC⟩)
  have S1 := hide s1
  have B1 := hide b1
  have LP := hide (lpool_calls V1 ⟨#[97]⟩)
  clear s1 b1 hS hP hR hC NC
  go_wp2_with fail
  refine (unhide LP).mono ?_
  rintro e V2 ⟨B, rfl, tg, b2⟩
  have B2 := hide ((unhide B1).trans (b2.mono (unhide B1).size))
  have D1 := hide (do_calls ((unhide S1).later b2) sm0_ok (by simp [sm0]) (poolC ⟨#[97]⟩) _ _ (poolC_at tg) (unhide MX V2 (unhide B2)))
  clear tg b2 LP
  go_wp2_with fail
  refine (unhide D1).mono ?_
  rintro e V3 ⟨a1, t1, rfl, sd, cd⟩
  rw [x_dos1] at sd ⊢
  have B3 := hide (Chg.toBelow (unhide B2) cd (unhide NN))
  have S3 := hide sd
  have bA := hide (show Below V3.heap.size V3 (V3.alloc (.cells #[.int .i64 0, .int .i64 1] 56)) from (Below.refl _ _).alloc (Nat.le_refl _) _)
  have XA := hide (heap_new V3 (.cells #[.int .i64 0, .int .i64 1] 56))
  have B4 := hide ((unhide B3).trans ((unhide bA).mono (unhide B3).size))
  have S4 := hide ((unhide S3).later (unhide bA))
  have LR := hide (lroute_calls (V3.alloc (.cells #[.int .i64 0, .int .i64 1] 56)) ⟨#[120, 46, 121]⟩ ⟨#[47]⟩ ⟨#[97]⟩)
  have L3 := hide (unhide S3).lts
  clear sd cd D1 S1 B1 B2
  go_wp2_with fail
  have ZA := hide (show V3.heap.size < (V3.alloc (.cells #[.int .i64 0, .int .i64 1] 56)).heap.size from (Array.getElem?_eq_some_iff.1 (unhide XA)).1)
  generalize hTA : V3.heap.size = TA at *
  generalize V3.alloc (.cells #[.int .i64 0, .int .i64 1] 56) = V4 at *
  refine (unhide LR).mono ?_
  rintro e V5 ⟨rfl, b5⟩
  have XA5 := hide (later_block b5 (unhide XA))
  have B5 := hide ((unhide B4).trans (b5.mono (unhide B4).size))
  have Z5 := hide (show TA < V5.heap.size from Nat.lt_of_lt_of_le (unhide ZA) b5.size)
  have D2 := hide (do_calls ((unhide S4).later b5) (xS1_ok a1 t1) (by simp [xS1]) (routeC ⟨#[120, 46, 121]⟩ ⟨#[47]⟩ ⟨#[97]⟩) none 0 (routeC_at V5) (unhide MX V5 (unhide B5)))
  clear b5 LR XA ZA S4 B4 S3 B3 bA
  go_wp2_with fail
  refine (unhide D2).mono ?_
  rintro e V6 ⟨a2, t2, rfl, sd, cd⟩
  rw [x_dos2] at sd ⊢
  have XA6 := hide ((cd.block TA (unhide Z5) (by have := unhide L3; omega) (by have := unhide L3; omega) (by have := unhide L3; omega) (by have := unhide L3; omega)).trans (unhide XA5))
  have B6 := hide (Chg.toBelow (unhide B5) cd (unhide NN))
  have Z6 := hide (show TA < V6.heap.size from Nat.lt_of_lt_of_le (unhide Z5) cd.size)
  have bB := hide (show Below V6.heap.size V6 (V6.alloc (.cells #[.int .i64 0, .int .i64 2] 56)) from (Below.refl _ _).alloc (Nat.le_refl _) _)
  have XB := hide (heap_new V6 (.cells #[.int .i64 0, .int .i64 2] 56))
  have XA7 := hide (later_block (unhide bB) (unhide XA6))
  have B7 := hide ((unhide B6).trans ((unhide bB).mono (unhide B6).size))
  have S7 := hide (sd.later (unhide bB))
  have Z7 := hide (show V6.heap.size < (V6.alloc (.cells #[.int .i64 0, .int .i64 2] 56)).heap.size from (Array.getElem?_eq_some_iff.1 (unhide XB)).1)
  have D3 := hide (do_calls (unhide S7) (xS2_ok a1 t1) (by simp [xS2]) xC3 none 0 (xC3_at _) (unhide MX _ (unhide B7)))
  clear sd cd D2 XA5 XA6 Z5 B5 B6 bB
  go_wp2_with fail
  generalize hTB : V6.heap.size = TB at *
  generalize V6.alloc (.cells #[.int .i64 0, .int .i64 2] 56) = V7 at *
  refine (unhide D3).mono ?_
  rintro e V8 ⟨a3, t3, rfl, sd, cd⟩
  rw [x_dos3] at sd ⊢
  have ZAB := unhide Z6
  have XA8 := hide ((cd.block TA (by have := unhide Z7; omega) (by have := unhide L3; omega) (by have := unhide L3; omega) (by have := unhide L3; omega) (by have := unhide L3; omega)).trans (unhide XA7))
  have XB8 := hide ((cd.block TB (unhide Z7) (by have := unhide L3; omega) (by have := unhide L3; omega) (by have := unhide L3; omega) (by have := unhide L3; omega)).trans (unhide XB))
  have B8 := hide (Chg.toBelow (unhide B7) cd (unhide NN))
  have bC := hide (show Below V8.heap.size V8 (V8.alloc (.cells #[.int .i64 13, .int .i64 2] 56)) from (Below.refl _ _).alloc (Nat.le_refl _) _)
  have XC := hide (heap_new V8 (.cells #[.int .i64 13, .int .i64 2] 56))
  have XA9 := hide (later_block (unhide bC) (unhide XA8))
  have XB9 := hide (later_block (unhide bC) (unhide XB8))
  have B9 := hide ((unhide B8).trans ((unhide bC).mono (unhide B8).size))
  have CF := hide (config_calls (sd.later (unhide bC)) (xS2_ok a1 t1))
  clear sd cd D3 XA7 XB XA8 XB8 B7 B8 bC S7 ZAB Z6 Z7
  go_wp2_with fail
  generalize hTC : V8.heap.size = TC at *
  generalize V8.alloc (.cells #[.int .i64 13, .int .i64 2] 56) = V9 at *
  refine (unhide CF).mono ?_
  rintro e V10 ⟨⟨ra, rc, pa, pc⟩, rfl, cf, bb, _, _⟩
  obtain ⟨b, off, er, r0, r1, r2⟩ := cf.rts.cell 0 (by simp [xS2, Sm.cf])
  simp only at er
  subst er
  have hrc := cf.rl.2
  have bD := hide (show Below V10.heap.size V10 (V10.alloc (.cells #[.int .i64 2, .slice (some ⟨b, off, none⟩) 1 rc, .slice pa 1 pc] 53)) from (Below.refl _ _).alloc (Nat.le_refl _) _)
  have XD := hide (heap_new V10 (.cells #[.int .i64 2, .slice (some ⟨b, off, none⟩) 1 rc, .slice pa 1 pc] 53))
  have q2 : (V10.alloc (.cells #[.int .i64 2, .slice (some ⟨b, off, none⟩) 1 rc, .slice pa 1 pc] 53)).cell? ⟨b, off + 2, none⟩ = some (.string ⟨#[97]⟩) := cell_later (unhide bD) r2
  have BF := hide (((unhide B9).trans (bb.mono (unhide B9).size)).trans ((unhide bD).mono (by have := (unhide B9).size; have := bb.size; omega)))
  have XAF := hide (later_block (unhide bD) (later_block bb (unhide XA9)))
  have XBF := hide (later_block (unhide bD) (later_block bb (unhide XB9)))
  have XCF := hide (later_block (unhide bD) (later_block bb (unhide XC)))
  have ea0 := fcell0 (unhide XAF) 0 _ rfl
  have ea1 := fcell0 (unhide XAF) 1 _ rfl
  have eb0 := fcell0 (unhide XBF) 0 _ rfl
  have eb1 := fcell0 (unhide XBF) 1 _ rfl
  have ec0 := fcell0 (unhide XCF) 0 _ rfl
  have ec1 := fcell0 (unhide XCF) 1 _ rfl
  have ed0 := fcell0 (unhide XD) 0 _ rfl
  have ed1 := fcell0 (unhide XD) 1 _ rfl
  have ed2 := fcell0 (unhide XD) 2 _ rfl
  have h1 := eqRes1
  have h2 := eqRes2
  have h3 := eqRes3
  rw [show cfVal (xS2 a1 t1).cf ⟨some ⟨b, off, none⟩, rc, pa, pc⟩ = .agg #[.int .i64 2, .slice (some ⟨b, off, none⟩) 1 rc, .slice pa 1 pc] from rfl]
  clear cf bb r0 r1 r2 CF XA9 XB9 XC B9
  go_wp2_with fail
  go_ret
  exact ⟨rfl, unhide BF⟩
end Go.Proofs.YtpkpnedcecjlbaaGreatDoor
end
/- Conf: a command as an argument; the library's variable. -/
section
namespace Go.Proofs.YtpkpnedcecjlbaaGreatDoor
open Go.ChangeShapes Go.WideShapes Go.ChangeAt Go.RowKit
set_option linter.unusedVariables false

/-- A command as it comes: its texts' sizes are only within maxLen (CmdAt asks 2^47: by the row's sizes). -/
structure CmdM (w : World) (c : Cmd) (a : Option Addr) (tc : Nat) : Prop where
  tgs : TgsAt w a c.ts
  tz : ∀ t ∈ c.ts, t.1.size ≤ maxLen
  th : c.host.size ≤ maxLen
  tp : c.pre.size ≤ maxLen
  tl : c.pool.size ≤ maxLen
  tn : c.ts.length ≤ maxLen ∧ c.ts.length ≤ tc
  tnil : a = none → tc = 0
  ia : -9223372036854775808 ≤ c.act ∧ c.act ≤ 9223372036854775807
  ic : -9223372036854775808 ≤ c.cli ∧ c.cli ≤ 9223372036854775807
  is : -9223372036854775808 ≤ c.seq ∧ c.seq ≤ 9223372036854775807
  ie : -9223372036854775808 ≤ c.exp ∧ c.exp ≤ 9223372036854775807
theorem list8p {vs : Array Value} (h : vs.size = 8) : ∃ c0 c1 c2 c3 c4 c5 c6 c7, vs = #[c0, c1, c2, c3, c4, c5, c6, c7] := by
  obtain ⟨l⟩ := vs
  match l, h with
  | [c0, c1, c2, c3, c4, c5, c6, c7], _ => exact ⟨c0, c1, c2, c3, c4, c5, c6, c7, rfl⟩
theorem list8l {α : Type} {l : List α} (h : l.length = 8) : ∃ c0 c1 c2 c3 c4 c5 c6 c7, l = [c0, c1, c2, c3, c4, c5, c6, c7] := by
  match l, h with
  | [c0, c1, c2, c3, c4, c5, c6, c7], _ => exact ⟨c0, c1, c2, c3, c4, c5, c6, c7, rfl⟩
set_option maxRecDepth 100000 in
theorem targets_arg2 {H : Type} {enc : TypeId × Value → H} {W : World} {a : Option Addr} {len cap : Nat} {d : DataW H} {p : List MemPlace}
    (h : DataW.Trod enc Tryz.prog W 0 (fun _ => true) true 23 (.slice a len cap) d p) :
    ∃ es : List Tgt, es.length = len ∧ (len ≤ maxLen ∧ len ≤ cap) ∧ TgsAt W a es ∧ ∀ t ∈ es, t.1.size ≤ maxLen := by
  obtain ⟨fuel, hf⟩ := h
  have c6 : Tryz.prog.cellsOf 43 = 2 := by kernel_rfl
  rcases Deep.open_slice Tryz.underlying23 hf with ⟨hcs, _⟩ | ⟨x, l, c, m, n, D, Pl, hcs, _, hl, hm, hm', _, hel⟩
  · simp [Value.cells] at hcs
    obtain ⟨rfl, rfl, rfl⟩ := hcs
    exact ⟨[], rfl, ⟨by simp [maxLen], Nat.le_refl _⟩, ⟨by simp, by simp⟩, by simp⟩
  · simp [Value.cells] at hcs
    obtain ⟨rfl, rfl, rfl⟩ := hcs
    have hmm : m = cap := by simpa using hm'
    rw [c6] at hel
    have hone : ∀ i, i < len → ∃ (e : Tgt), W.cell? ((x.add (i * 2)).add 0) = some (.string e.1) ∧ W.cell? ((x.add (i * 2)).add 1) = some (.float .f64 e.2) ∧ e.2 < 18446744073709551616 ∧ e.1.size ≤ maxLen := by
      intro i hi
      obtain ⟨cs', h1, h2⟩ := hel i (by omega)
      obtain ⟨v0, v1, rfl, g0, g1⟩ := cells2 h1
      obtain ⟨xs, n', _, _, _, hx, hfs⟩ := DataW.trod_struct Tryz.underlying43 h2
      obtain ⟨y0, y1, rfl⟩ := list2 (show xs.length = 2 from hx)
      obtain ⟨s, e0, _, w0⟩ := DataW.trod_string Tryz.underlying9 (show DataW.trod enc Tryz.prog W 0 (fun _ => true) true n' 9 [v0] = some y0 from hfs 0 _ rfl)
      obtain ⟨b, rfl, hb⟩ := trod_float1 (show DataW.trod enc Tryz.prog W 0 (fun _ => true) true n' 39 [v1] = some y1 from hfs 1 _ rfl)
      simp only [List.cons.injEq, and_true] at e0
      subst e0
      exact ⟨(s, b), g0, g1, hb, w0⟩
    obtain ⟨f, hfp⟩ := Deep.choose_lt (n := len) (p := fun i (e : Tgt) => W.cell? ((x.add (i * 2)).add 0) = some (.string e.1) ∧ W.cell? ((x.add (i * 2)).add 1) = some (.float .f64 e.2) ∧ e.2 < 18446744073709551616 ∧ e.1.size ≤ maxLen) (fun i hi => hone i hi)
    refine ⟨(List.range len).map f, by simp, ⟨by omega, by omega⟩, ⟨fun t ht => ?_, fun i hi => ?_⟩, fun t ht => ?_⟩
    · obtain ⟨i, hi, rfl⟩ := List.mem_map.1 ht
      exact (hfp i (by simpa using hi)).2.2.1
    · simp only [List.length_map, List.length_range] at hi
      obtain ⟨h0, h1, _⟩ := hfp i hi
      have e : ((List.range len).map f)[i]'(by simpa using hi) = f i := by simp
      rw [e]
      obtain ⟨b, off, spot⟩ := x
      obtain ⟨h00, _⟩ := hfp 0 (by omega)
      have hspot : spot = none := by simpa [Addr.add] using World.cell?_spot h00
      subst hspot
      simp only [Addr.add_lit] at h0 h1
      exact ⟨b, off, rfl, h0, h1⟩
    · obtain ⟨i, hi, rfl⟩ := List.mem_map.1 ht
      exact (hfp i (by simpa using hi)).2.2.2
set_option maxRecDepth 20000 in
theorem cmd_open {H : Type} {enc : TypeId × Value → H} {W : World} {n : Nat} {v0 v1 v2 v3 v4 v5 v6 v7 : Value} {y : DataW H × List MemPlace}
    (h2 : DataW.trod enc Tryz.prog W 0 (fun _ => true) true n 25 [v0, v1, v2, v3, v4, v5, v6, v7] = some y) :
    ∃ (c : Cmd) (a : Option Addr) (tc : Nat), #[v0, v1, v2, v3, v4, v5, v6, v7] = cmdRow c a tc ∧ CmdM W c a tc := by
  obtain ⟨xs, n', _, _, _, hx, hfs⟩ := DataW.trod_struct Tryz.underlying25 h2
  obtain ⟨y0, y1, y2, y3, y4, y5, y6, y7, rfl⟩ := list8l (show xs.length = 8 from hx)
  obtain ⟨k0, e0, _, w0⟩ := DataW.trod_int Tryz.underlying22 (show DataW.trod enc Tryz.prog W 0 (fun _ => true) true n' 22 [v0] = some y0 from hfs 0 _ rfl)
  obtain ⟨k1, e1, _, w1⟩ := DataW.trod_int Tryz.underlying3 (show DataW.trod enc Tryz.prog W 0 (fun _ => true) true n' 3 [v1] = some y1 from hfs 1 _ rfl)
  obtain ⟨k2, e2, _, w2⟩ := DataW.trod_int Tryz.underlying3 (show DataW.trod enc Tryz.prog W 0 (fun _ => true) true n' 3 [v2] = some y2 from hfs 2 _ rfl)
  obtain ⟨k3, e3, _, w3⟩ := DataW.trod_int Tryz.underlying3 (show DataW.trod enc Tryz.prog W 0 (fun _ => true) true n' 3 [v3] = some y3 from hfs 3 _ rfl)
  obtain ⟨k4, e4, _, w4⟩ := DataW.trod_string Tryz.underlying9 (show DataW.trod enc Tryz.prog W 0 (fun _ => true) true n' 9 [v4] = some y4 from hfs 4 _ rfl)
  obtain ⟨k5, e5, _, w5⟩ := DataW.trod_string Tryz.underlying9 (show DataW.trod enc Tryz.prog W 0 (fun _ => true) true n' 9 [v5] = some y5 from hfs 5 _ rfl)
  obtain ⟨k6, e6, _, w6⟩ := DataW.trod_string Tryz.underlying9 (show DataW.trod enc Tryz.prog W 0 (fun _ => true) true n' 9 [v6] = some y6 from hfs 6 _ rfl)
  have t7 : DataW.trod enc Tryz.prog W 0 (fun _ => true) true n' 23 [v7] = some y7 := hfs 7 _ rfl
  obtain ⟨a', l', c', e7⟩ := Joins.slice_form Tryz.underlying23 t7
  simp only [List.cons.injEq, and_true] at e0 e1 e2 e3 e4 e5 e6 e7
  subst e0 e1 e2 e3 e4 e5 e6 e7
  have hs : DataW.Trod enc Tryz.prog W 0 (fun _ => true) true 23 (.slice a' l' c') y7.1 y7.2 := ⟨n', t7⟩
  obtain ⟨ts, rfl, hl, hT, hz⟩ := targets_arg2 hs
  exact ⟨⟨k0, k1, k2, k3, k4, k5, k6, ts⟩, a', c', rfl, hT, hz, w4, w5, w6, hl, slice_nil0 Tryz.underlying23 hs, i64_bounds w0, i64_bounds w1, i64_bounds w2, i64_bounds w3⟩
set_option maxRecDepth 20000 in
theorem open_cmd {H : Type} {enc : TypeId × Value → H} {W : World} {r : Reach} {b0 : Nat} {v : Value} {d : DataW H} {p : List MemPlace} (hv : Value.okWide Tryz.prog W r b0 25 v)
    (h : DataW.Trod enc Tryz.prog W 0 (fun _ => true) true 25 v d p) : ∃ (c : Cmd) (q : Option Addr × Nat), v = cmdVal c q.1 q.2 ∧ CmdM W c q.1 q.2 := by
  obtain ⟨cs, rfl, hsz⟩ := okWide_struct Tryz.underlying25 hv
  have c8 : Tryz.prog.cellsOf 25 = 8 := by kernel_rfl
  obtain ⟨v0, v1, v2, v3, v4, v5, v6, v7, rfl⟩ := list8p (hsz.trans c8)
  obtain ⟨fuel, hf⟩ := h
  obtain ⟨c, a, tc, e, hc⟩ := cmd_open (show DataW.trod enc Tryz.prog W 0 (fun _ => true) true fuel 25 [v0, v1, v2, v3, v4, v5, v6, v7] = some (d, p) from hf)
  exact ⟨c, (a, tc), congrArg Value.agg e, hc⟩
end Go.Proofs.YtpkpnedcecjlbaaGreatDoor
end
/- Conf: the library's variable, as a tied row lays it. -/
section
namespace Go.Proofs.YtpkpnedcecjlbaaGreatDoor
open Go.ChangeShapes Go.WideShapes Go.ChangeAt Go.RowKit Go.Lib
set_option linter.unusedVariables false

def Lz (w : World) : Prop := Mx w
theorem lz_of {W : World} (hL : laidMet Tryz.prog [("unicode/utf8.acceptRanges", Rows.laid_unicode_utf8_acceptRanges), ("unicode/utf8.first", Rows.laid_unicode_utf8_first)] W) (hsh : W.ShapedOpen Tryz.prog) : Lz W := Tryz.laysM146.s1_3 W hsh
/-- A contract over a first world of which both is known: what X says, and its shape. -/
theorem handed_both {H : Type} {enc : TypeId × Value → H} {a : Assume} {C : Checked} {os : Os} {f : FuncId} {fn : Func} {s : ChangeSpec} {conds : List PathCond} {apart fresh handsOn again : Bool} {X : World → Array Value → Prop}
    (hX : ∀ (w w' : World) (args : Array Value), w.heap = w'.heap → X w args → X w' args)
    (own : ownKnob C.prog.godebug = none) (started : os.Started) (noInit : C.prog.inits.idxOf? f = none) (hfn : C.prog.funcs[f]? = some fn)
    (witness : ∃ (w : World) (tape : Tape) (i : Input), w.os = os ∧ (w.forCall tape i).Shaped C.prog ∧ i.vars = [] ∧ Input.okWide C.prog (w.forCall tape i) .any w.heap.size f i ∧
      ((s.pre enc C.prog fn conds apart (w.forCall tape i).memory i.args ∧ X (w.forCall tape i).memory i.args) ∧ sizedMet enc C.prog fn (OpenSpec.ofChange s) apart (w.forCall tape i).memory i.args) ∧ a.holds C.prog (lone (Frame.enter C.prog f i.args .normal) [] (w.forCall tape i)))
    (contract : ∀ (W : World) (base : Nat) (args : Array Value) (ds gs : List (DataW H)) (before : List MemPlace),
      (∀ (j : Nat) t v, fn.params[j]? = some t → args[j]? = some v → Value.okWide C.prog W .any base t v) →
      DataW.Whole enc C.prog fn.params.toList s.vars apart W args.toList ds gs before →
      conds.all (PathCond.test C.prog ⟨fn.params.toList, ds, s.plain.varTypes C.prog, gs⟩) = true →
      (DataW.weightsEach C.prog (fn.params.toList ++ s.plain.varTypes C.prog) (ds ++ gs)).all (· ≤ reachBytes) = true → X W args → W.ShapedOpen C.prog →
      a.holds C.prog (lone (Frame.enter C.prog f args .normal) [] W) →
      Calls C.prog f args W fun e W' => ∃ v, e = .returned v ∧ s.post enc C.prog fn apart fresh handsOn again W args v W') :
    ReturnsInHanded a C os f .any (fun w args => (s.pre enc C.prog fn conds apart w args ∧ X w args) ∧ sizedMet enc C.prog fn (OpenSpec.ofChange s) apart w args) (s.post enc C.prog fn apart fresh handsOn again) := by
  refine returnsInHanded_of_calls own started noInit witness ?_
  intro w tape i _ hsh _ hok hpre hholds
  obtain ⟨_, _, _, gn, hgn, _, _, _, _, hval⟩ := hok
  obtain rfl : gn = fn := Option.some.inj (hgn.symm.trans hfn)
  obtain ⟨⟨⟨ds, gs, before, hw, hc⟩, hx⟩, hz⟩ := hpre
  refine (contract (w.forCall tape i) w.heap.size i.args ds gs before hval (DataW.Whole.of_heap (w' := w.forCall tape i) (by rfl) hw) hc (hz.weights hw) (hX _ _ _ (by rfl) hx) hsh hholds).mono fun e W' h => ?_
  obtain ⟨v, rfl, hp⟩ := h
  exact ChangeSpec.post_blind hp
end Go.Proofs.YtpkpnedcecjlbaaGreatDoor
end
