/- Proved: just finite weights from +0 on may be, and they come back bit by bit; for all 64 bits; no condition beyond the library's variable that is read (lz_of). -/
import Derived.Test.YtpkpnedcecjlbaaGreatDoorB38
import Derived.Test.YtpkpnedcecjlbaaGreatDoorB34
import Derived.Test.YtpkpnedcecjlbaaGreatDoorTie
import Derived.Test.YtpkpnedcecjlbaaGreatDoorCards
import Derived.Lay
import Derived.MakeChecks
import Derived.SevenTiedAt
import Derived.Stop.Joined
namespace Go.Proofs.YtpkpnedcecjlbaaGreatDoor.confWeights
open Go.ChangeShapes Go.WideShapes Go.ChangeAt Go.RowKit
set_option linter.unusedVariables false

theorem own : ownKnob Tryz.prog.godebug = none := by kernel_rfl
theorem laidOut : laidOutB Tryz.prog = true := by kernel_rfl

theorem wC_at {W : World} {B x : Nat} (hx : x < 18446744073709551616) (h : W.heap[B]? = some (.cells #[.string ⟨#[116]⟩, .float .f64 x] 43 (0, 0))) : CmdAt W (wC x) (some ⟨B, 0, none⟩) 1 :=
  ⟨⟨by simp [wC]; exact hx, fun i hi => by
    obtain rfl : i = 0 := by simp [wC] at hi; omega
    exact ⟨B, 0, rfl, fcell0 h 0 _ rfl, fcell0 h 1 _ rfl⟩⟩, fun t ht => by simp only [wC, List.mem_singleton] at ht; subst ht; show (1 : Nat) ≤ _; omega, by show (0 : Nat) ≤ _; omega, by show (0 : Nat) ≤ _; omega, by show (1 : Nat) ≤ _; omega, ⟨by simp [wC, maxLen], by simp [wC]⟩, by simp, by simp [wC], by simp [wC], by simp [wC], by simp [wC]⟩
set_option maxRecDepth 20000 in
set_option maxHeartbeats 8000000 in
theorem walk (x : Nat) (w : World) (hx : x < 18446744073709551616) (hLz : Lz w) : Calls Tryz.prog 6 #[.int .u64 (x : Int)] w fun e w' => e = .returned (.bool true) ∧ Below w.heap.size w w' := by
  have MX := hide (fun (W : World) (hb : Below w.heap.size w W) => Mx.later hLz hb)
  have hfb := cfrom_call
  have hbt := cbits_call
  have LP := hide (lpoolW_calls w ⟨#[97]⟩)
  clear hLz
  have hsF := run_storeF .plain
  go_enter Tryz.func6, Tryz.ntmps6
  go_wp2_with fail
  refine (unhide LP).mono ?_
  rintro e V1 ⟨B, rfl, tg, xb, hB, b1⟩
  rw [show cmdVal (poolC ⟨#[97]⟩) (some ⟨B, 0, none⟩) 1 = .agg #[.int .i64 1, .int .i64 0, .int .i64 0, .int .i64 (-1), .string ⟨#[]⟩, .string ⟨#[]⟩, .string ⟨#[97]⟩, .slice (some ⟨B, 0, none⟩) 1 1] from rfl]
  have HB := hide hB
  have LB := hide (show B < V1.heap.size from (Array.getElem?_eq_some_iff.1 xb).1)
  have bA := hide (show Below V1.heap.size V1 (V1.alloc (.cells #[.int .i64 1, .int .i64 0, .int .i64 0, .int .i64 (-1), .string ⟨#[]⟩, .string ⟨#[]⟩, .string ⟨#[97]⟩, .slice (some ⟨B, 0, none⟩) 1 1] 25)) from (Below.refl _ _).alloc (Nat.le_refl _) _)
  have XC := hide (heap_new V1 (.cells #[.int .i64 1, .int .i64 0, .int .i64 0, .int .i64 (-1), .string ⟨#[]⟩, .string ⟨#[]⟩, .string ⟨#[97]⟩, .slice (some ⟨B, 0, none⟩) 1 1] 25))
  have XB := hide (later_block (unhide bA) xb)
  have B2 := hide (b1.trans ((unhide bA).mono b1.size))
  have q7 := fcell0 (unhide XC) 7 (.slice (some ⟨B, 0, none⟩) 1 1) rfl
  have f1 : (V1.alloc (.cells #[.int .i64 1, .int .i64 0, .int .i64 0, .int .i64 (-1), .string ⟨#[]⟩, .string ⟨#[]⟩, .string ⟨#[97]⟩, .slice (some ⟨B, 0, none⟩) 1 1] 25)).frozen? ⟨B, 1, none⟩ = false := by simp [World.frozen?, unhide XB]
  have g1 := fcell0 (unhide XB) 1 (.float .f64 4607182418800017408) rfl
  have gS := hide (grown_set (V1.alloc (.cells #[.int .i64 1, .int .i64 0, .int .i64 0, .int .i64 (-1), .string ⟨#[]⟩, .string ⟨#[]⟩, .string ⟨#[97]⟩, .slice (some ⟨B, 0, none⟩) 1 1] 25)) B 1 (.float .f64 x))
  have XB3 := hide (show ((V1.alloc (.cells #[.int .i64 1, .int .i64 0, .int .i64 0, .int .i64 (-1), .string ⟨#[]⟩, .string ⟨#[]⟩, .string ⟨#[97]⟩, .slice (some ⟨B, 0, none⟩) 1 1] 25)).setCell ⟨B, 1, none⟩ (.float .f64 x)).heap[B]? = some (.cells #[.string ⟨#[116]⟩, .float .f64 x] 43 (0, 0)) from set_at (unhide XB) 1 _ _ rfl)
  have XC3 := hide (show ((V1.alloc (.cells #[.int .i64 1, .int .i64 0, .int .i64 0, .int .i64 (-1), .string ⟨#[]⟩, .string ⟨#[]⟩, .string ⟨#[97]⟩, .slice (some ⟨B, 0, none⟩) 1 1] 25)).setCell ⟨B, 1, none⟩ (.float .f64 x)).heap[V1.heap.size]? = some (.cells #[.int .i64 1, .int .i64 0, .int .i64 0, .int .i64 (-1), .string ⟨#[]⟩, .string ⟨#[]⟩, .string ⟨#[97]⟩, .slice (some ⟨B, 0, none⟩) 1 1] 25 (0, 0)) from ((unhide gS).block _ (Array.getElem?_eq_some_iff.1 (unhide XC)).1 (fun e => by have h1 := Option.some.inj e; have h2 := unhide LB; omega)).trans (unhide XC))
  have B3 := hide (below_grownK (unhide B2) (unhide gS) (unhide HB) (unhide B2).size)
  have CK := hide (check_calls (wC x) (some ⟨B, 0, none⟩) 1 _ (wC_at hx (unhide XB3)) (unhide MX _ (unhide B3)))
  have PK := hide (fun (W : World) (hb : Below ((V1.alloc (.cells #[.int .i64 1, .int .i64 0, .int .i64 0, .int .i64 (-1), .string ⟨#[]⟩, .string ⟨#[]⟩, .string ⟨#[97]⟩, .slice (some ⟨B, 0, none⟩) 1 1] 25)).setCell ⟨B, 1, none⟩ (.float .f64 x)).heap.size ((V1.alloc (.cells #[.int .i64 1, .int .i64 0, .int .i64 0, .int .i64 (-1), .string ⟨#[]⟩, .string ⟨#[]⟩, .string ⟨#[97]⟩, .slice (some ⟨B, 0, none⟩) 1 1] 25)).setCell ⟨B, 1, none⟩ (.float .f64 x)) W) => kput_calls (wC x) (some ⟨B, 0, none⟩) 1 W ((wC_at hx (unhide XB3)).later hb) ((unhide MX _ (unhide B3)).later hb))
  unfold PutKE at PK
  rw [wC_check] at CK PK
  rw [show cmdVal (wC x) (some ⟨B, 0, none⟩) 1 = .agg #[.int .i64 1, .int .i64 0, .int .i64 0, .int .i64 (-1), .string ⟨#[]⟩, .string ⟨#[]⟩, .string ⟨#[97]⟩, .slice (some ⟨B, 0, none⟩) 1 1] from rfl] at CK PK
  have GP := hide (fun (e : x < 9218868437227405312) => get_put (c := wC x) (by rw [wC_check, if_pos e]) (by simp only [wC, List.mem_singleton]; rintro t rfl; exact hx))
  have PV := hide (show putV (wC x) = if x < 9218868437227405312 then cmdB (wC x) else [] by unfold putV; rw [wC_check]; split <;> simp)
  clear tg xb hB b1 LP
  by_cases hgood : x < 9218868437227405312
  · as_aux_lemma =>
    have hge : (FloatKind.f64.format.order x 0 == some Ordering.gt || FloatKind.f64.format.order x 0 == some Ordering.eq) = true := by
      rw [show (FloatKind.f64.format.order x 0 == some Ordering.gt || FloatKind.f64.format.order x 0 == some Ordering.eq) = _ from ge0_is x hx]
      exact decide_eq_true (.inl (by show x ≤ 9218868437227405312; omega))
    have hle : (FloatKind.f64.format.order x 9218868437227405311 == some Ordering.lt || FloatKind.f64.format.order x 9218868437227405311 == some Ordering.eq) = true := by
      rw [le_top (by show x ≤ 9218868437227405312; omega)]
      exact decide_eq_true hgood
    have hs1 : (x : Int) / 9223372036854775808 = 0 := by omega
    rw [if_pos hgood] at CK PK PV
    rw [show ((0 : Nat) : Int) = 0 from rfl] at CK PK
    have GG := hide (unhide GP hgood)
    rw [← unhide PV] at GG
    clear GP PV
    have c0 := fcell0 (unhide XC3) 0 (.int .i64 1) rfl
    have c1 := fcell0 (unhide XC3) 1 (.int .i64 0) rfl
    have c2 := fcell0 (unhide XC3) 2 (.int .i64 0) rfl
    have c3 := fcell0 (unhide XC3) 3 (.int .i64 (-1)) rfl
    have c4 := fcell0 (unhide XC3) 4 (.string ⟨#[]⟩) rfl
    have c5 := fcell0 (unhide XC3) 5 (.string ⟨#[]⟩) rfl
    have c6 := fcell0 (unhide XC3) 6 (.string ⟨#[97]⟩) rfl
    have c7 := fcell0 (unhide XC3) 7 (.slice (some ⟨B, 0, none⟩) 1 1) rfl
    go_wp2_with fail
    generalize hC : V1.heap.size = C at *
    generalize (V1.alloc (.cells #[.int .i64 1, .int .i64 0, .int .i64 0, .int .i64 (-1), .string ⟨#[]⟩, .string ⟨#[]⟩, .string ⟨#[97]⟩, .slice (some ⟨B, 0, none⟩) 1 1] 25)).setCell ⟨B, 1, none⟩ (.float .f64 x) = W3 at *
    refine (unhide CK).mono ?_
    rintro e V4 ⟨rfl, v4⟩
    have XC4 := hide (later_block v4 (unhide XC3))
    have B4 := hide ((unhide B3).trans (v4.mono (unhide B3).size))
    have PC := hide (unhide PK V4 v4)
    clear v4 CK PK c0 c1 c2 c3 c4 c5 c6 c7 XC3
    have d0 := fcell0 (unhide XC4) 0 (.int .i64 1) rfl
    have d1 := fcell0 (unhide XC4) 1 (.int .i64 0) rfl
    have d2 := fcell0 (unhide XC4) 2 (.int .i64 0) rfl
    have d3 := fcell0 (unhide XC4) 3 (.int .i64 (-1)) rfl
    have d4 := fcell0 (unhide XC4) 4 (.string ⟨#[]⟩) rfl
    have d5 := fcell0 (unhide XC4) 5 (.string ⟨#[]⟩) rfl
    have d6 := fcell0 (unhide XC4) 6 (.string ⟨#[97]⟩) rfl
    have d7 := fcell0 (unhide XC4) 7 (.slice (some ⟨B, 0, none⟩) 1 1) rfl
    go_wp2_with fail
    refine (unhide PC).mono ?_
    rintro e V5 ⟨sp, n, cc, rfl, hn, ho, v5⟩
    have B5 := hide ((unhide B4).trans (v5.mono (unhide B4).size))
    have hcap := ho.cap
    have OB := hide ho.bytes
    have O0 := hide ho.cap0
    generalize putV (wC x) = L at *
    subst hn
    have GC := hide (kget_calls sp cc L V5 hcap.1 hcap.2 (unhide OB) (unhide O0) (unhide MX V5 (unhide B5)))
    unfold GetKE at GC
    rw [unhide GG] at GC
    dsimp only at GC
    rw [show ((0 : Nat) : Int) = 0 from rfl] at GC
    clear ho v5 PC d0 d1 d2 d3 d4 d5 d6 d7 hcap OB O0
    go_wp2_with fail
    refine (unhide GC).mono ?_
    rintro e V6 ⟨ta, tc, rfl, ca, _, v6⟩
    obtain ⟨b0, off, rfl, _, y1⟩ := ca.tgs.cell 0 (by simp [wC])
    have y1' : V6.cell? ⟨b0, off + 1, none⟩ = some (.float .f64 x) := by simpa [wC] using y1
    rw [show cmdVal (wC x) (some ⟨b0, off, none⟩) tc = .agg #[.int .i64 1, .int .i64 0, .int .i64 0, .int .i64 (-1), .string ⟨#[]⟩, .string ⟨#[]⟩, .string ⟨#[97]⟩, .slice (some ⟨b0, off, none⟩) 1 tc] from rfl]
    have B6 := hide ((unhide B5).trans (v6.mono (unhide B5).size))
    have bD := hide (show Below V6.heap.size V6 (V6.alloc (.cells #[.int .i64 1, .int .i64 0, .int .i64 0, .int .i64 (-1), .string ⟨#[]⟩, .string ⟨#[]⟩, .string ⟨#[97]⟩, .slice (some ⟨b0, off, none⟩) 1 tc] 25)) from (Below.refl _ _).alloc (Nat.le_refl _) _)
    have XD := hide (heap_new V6 (.cells #[.int .i64 1, .int .i64 0, .int .i64 0, .int .i64 (-1), .string ⟨#[]⟩, .string ⟨#[]⟩, .string ⟨#[97]⟩, .slice (some ⟨b0, off, none⟩) 1 tc] 25))
    have y2 := hide (cell_later (unhide bD) y1')
    have B7 := hide ((unhide B6).trans ((unhide bD).mono (unhide B6).size))
    have LV := hide (live8_calls _ (unhide MX _ (unhide B7)))
    clear ca v6 y1 y1' GC
    go_wp2_with fail
    generalize V6.heap.size = D at *
    generalize (V6.alloc (.cells #[.int .i64 1, .int .i64 0, .int .i64 0, .int .i64 (-1), .string ⟨#[]⟩, .string ⟨#[]⟩, .string ⟨#[97]⟩, .slice (some ⟨b0, off, none⟩) 1 tc] 25)) = V7 at *
    refine (unhide LV).mono ?_
    rintro e V8 ⟨rfl, v8⟩
    have B8 := hide ((unhide B7).trans (v8.mono (unhide B7).size))
    have XD8 := later_block v8 (unhide XD)
    have z7 := fcell0 XD8 7 (.slice (some ⟨b0, off, none⟩) 1 tc) rfl
    have z8 := cell_later v8 (unhide y2)
    clear v8 LV XD8
    go_wp2
    go_ret
    exact ⟨rfl, unhide B8⟩
  · as_aux_lemma =>
    have hbad := hgood
    clear hgood
    by_cases hinf : x = 9218868437227405312
    · subst hinf
      have hge : (FloatKind.f64.format.order 9218868437227405312 0 == some Ordering.gt || FloatKind.f64.format.order 9218868437227405312 0 == some Ordering.eq) = true := by
        rw [show (FloatKind.f64.format.order 9218868437227405312 0 == some Ordering.gt || FloatKind.f64.format.order 9218868437227405312 0 == some Ordering.eq) = _ from ge0_is 9218868437227405312 hx]
        rfl
      have hle : (FloatKind.f64.format.order 9218868437227405312 9218868437227405311 == some Ordering.lt || FloatKind.f64.format.order 9218868437227405312 9218868437227405311 == some Ordering.eq) = false := by
        rw [le_top (Nat.le_refl _)]
        rfl
      rw [if_neg hbad] at CK PK
      rw [show ((15 : Nat) : Int) = 15 from rfl] at CK PK
      rw [if_neg hbad] at PV
      clear GP
      have c0 := fcell0 (unhide XC3) 0 (.int .i64 1) rfl
      have c1 := fcell0 (unhide XC3) 1 (.int .i64 0) rfl
      have c2 := fcell0 (unhide XC3) 2 (.int .i64 0) rfl
      have c3 := fcell0 (unhide XC3) 3 (.int .i64 (-1)) rfl
      have c4 := fcell0 (unhide XC3) 4 (.string ⟨#[]⟩) rfl
      have c5 := fcell0 (unhide XC3) 5 (.string ⟨#[]⟩) rfl
      have c6 := fcell0 (unhide XC3) 6 (.string ⟨#[97]⟩) rfl
      have c7 := fcell0 (unhide XC3) 7 (.slice (some ⟨B, 0, none⟩) 1 1) rfl
      go_wp2_with fail
      generalize hC : V1.heap.size = C at *
      generalize (V1.alloc (.cells #[.int .i64 1, .int .i64 0, .int .i64 0, .int .i64 (-1), .string ⟨#[]⟩, .string ⟨#[]⟩, .string ⟨#[97]⟩, .slice (some ⟨B, 0, none⟩) 1 1] 25)).setCell ⟨B, 1, none⟩ (.float .f64 9218868437227405312) = W3 at *
      refine (unhide CK).mono ?_
      rintro e V4 ⟨rfl, v4⟩
      have XC4 := hide (later_block v4 (unhide XC3))
      have B4 := hide ((unhide B3).trans (v4.mono (unhide B3).size))
      have PC := hide (unhide PK V4 v4)
      clear v4 CK PK c0 c1 c2 c3 c4 c5 c6 c7 XC3
      have d0 := fcell0 (unhide XC4) 0 (.int .i64 1) rfl
      have d1 := fcell0 (unhide XC4) 1 (.int .i64 0) rfl
      have d2 := fcell0 (unhide XC4) 2 (.int .i64 0) rfl
      have d3 := fcell0 (unhide XC4) 3 (.int .i64 (-1)) rfl
      have d4 := fcell0 (unhide XC4) 4 (.string ⟨#[]⟩) rfl
      have d5 := fcell0 (unhide XC4) 5 (.string ⟨#[]⟩) rfl
      have d6 := fcell0 (unhide XC4) 6 (.string ⟨#[97]⟩) rfl
      have d7 := fcell0 (unhide XC4) 7 (.slice (some ⟨B, 0, none⟩) 1 1) rfl
      go_wp2_with fail
      refine (unhide PC).mono ?_
      rintro e V5 ⟨sp, n, cc, rfl, hn, ho, v5⟩
      have B5 := hide ((unhide B4).trans (v5.mono (unhide B4).size))
      rw [unhide PV] at hn
      have hn0 : n = 0 := hn.symm
      subst hn0
      have LV := hide (live8_calls V5 (unhide MX V5 (unhide B5)))
      clear ho v5 hn PC d0 d1 d2 d3 d4 d5 d6 d7
      go_wp2_with fail
      refine (unhide LV).mono ?_
      rintro e V6 ⟨rfl, v6⟩
      have B6 := hide ((unhide B5).trans (v6.mono (unhide B5).size))
      clear v6 LV
      go_wp2
      go_ret
      exact ⟨rfl, unhide B6⟩
    · by_cases hng : x = 9223372036854775808
      · subst hng
        have hge : (FloatKind.f64.format.order 9223372036854775808 0 == some Ordering.gt || FloatKind.f64.format.order 9223372036854775808 0 == some Ordering.eq) = true := by
          rw [show (FloatKind.f64.format.order 9223372036854775808 0 == some Ordering.gt || FloatKind.f64.format.order 9223372036854775808 0 == some Ordering.eq) = _ from ge0_is 9223372036854775808 hx]
          rfl
        have hle := le_neg0
        rw [if_neg hbad] at CK PK
        rw [show ((15 : Nat) : Int) = 15 from rfl] at CK PK
        rw [if_neg hbad] at PV
        clear GP
        have c0 := fcell0 (unhide XC3) 0 (.int .i64 1) rfl
        have c1 := fcell0 (unhide XC3) 1 (.int .i64 0) rfl
        have c2 := fcell0 (unhide XC3) 2 (.int .i64 0) rfl
        have c3 := fcell0 (unhide XC3) 3 (.int .i64 (-1)) rfl
        have c4 := fcell0 (unhide XC3) 4 (.string ⟨#[]⟩) rfl
        have c5 := fcell0 (unhide XC3) 5 (.string ⟨#[]⟩) rfl
        have c6 := fcell0 (unhide XC3) 6 (.string ⟨#[97]⟩) rfl
        have c7 := fcell0 (unhide XC3) 7 (.slice (some ⟨B, 0, none⟩) 1 1) rfl
        go_wp2_with fail
        generalize hC : V1.heap.size = C at *
        generalize (V1.alloc (.cells #[.int .i64 1, .int .i64 0, .int .i64 0, .int .i64 (-1), .string ⟨#[]⟩, .string ⟨#[]⟩, .string ⟨#[97]⟩, .slice (some ⟨B, 0, none⟩) 1 1] 25)).setCell ⟨B, 1, none⟩ (.float .f64 9223372036854775808) = W3 at *
        refine (unhide CK).mono ?_
        rintro e V4 ⟨rfl, v4⟩
        have XC4 := hide (later_block v4 (unhide XC3))
        have B4 := hide ((unhide B3).trans (v4.mono (unhide B3).size))
        have PC := hide (unhide PK V4 v4)
        clear v4 CK PK c0 c1 c2 c3 c4 c5 c6 c7 XC3
        have d0 := fcell0 (unhide XC4) 0 (.int .i64 1) rfl
        have d1 := fcell0 (unhide XC4) 1 (.int .i64 0) rfl
        have d2 := fcell0 (unhide XC4) 2 (.int .i64 0) rfl
        have d3 := fcell0 (unhide XC4) 3 (.int .i64 (-1)) rfl
        have d4 := fcell0 (unhide XC4) 4 (.string ⟨#[]⟩) rfl
        have d5 := fcell0 (unhide XC4) 5 (.string ⟨#[]⟩) rfl
        have d6 := fcell0 (unhide XC4) 6 (.string ⟨#[97]⟩) rfl
        have d7 := fcell0 (unhide XC4) 7 (.slice (some ⟨B, 0, none⟩) 1 1) rfl
        go_wp2_with fail
        refine (unhide PC).mono ?_
        rintro e V5 ⟨sp, n, cc, rfl, hn, ho, v5⟩
        have B5 := hide ((unhide B4).trans (v5.mono (unhide B4).size))
        rw [unhide PV] at hn
        have hn0 : n = 0 := hn.symm
        subst hn0
        have LV := hide (live8_calls V5 (unhide MX V5 (unhide B5)))
        clear ho v5 hn PC d0 d1 d2 d3 d4 d5 d6 d7
        go_wp2_with fail
        refine (unhide LV).mono ?_
        rintro e V6 ⟨rfl, v6⟩
        have B6 := hide ((unhide B5).trans (v6.mono (unhide B5).size))
        clear v6 LV
        go_wp2
        go_ret
        exact ⟨rfl, unhide B6⟩
      · have hge : (FloatKind.f64.format.order x 0 == some Ordering.gt || FloatKind.f64.format.order x 0 == some Ordering.eq) = false := by
          rw [show (FloatKind.f64.format.order x 0 == some Ordering.gt || FloatKind.f64.format.order x 0 == some Ordering.eq) = _ from ge0_is x hx]
          exact decide_eq_false (fun q => by
            rcases q with q | q
            · have q2 : x ≤ 9218868437227405312 := q
              omega
            · exact hng q)
        rw [if_neg hbad] at CK PK
        rw [show ((15 : Nat) : Int) = 15 from rfl] at CK PK
        rw [if_neg hbad] at PV
        clear GP
        have c0 := fcell0 (unhide XC3) 0 (.int .i64 1) rfl
        have c1 := fcell0 (unhide XC3) 1 (.int .i64 0) rfl
        have c2 := fcell0 (unhide XC3) 2 (.int .i64 0) rfl
        have c3 := fcell0 (unhide XC3) 3 (.int .i64 (-1)) rfl
        have c4 := fcell0 (unhide XC3) 4 (.string ⟨#[]⟩) rfl
        have c5 := fcell0 (unhide XC3) 5 (.string ⟨#[]⟩) rfl
        have c6 := fcell0 (unhide XC3) 6 (.string ⟨#[97]⟩) rfl
        have c7 := fcell0 (unhide XC3) 7 (.slice (some ⟨B, 0, none⟩) 1 1) rfl
        go_wp2_with fail
        generalize hC : V1.heap.size = C at *
        generalize (V1.alloc (.cells #[.int .i64 1, .int .i64 0, .int .i64 0, .int .i64 (-1), .string ⟨#[]⟩, .string ⟨#[]⟩, .string ⟨#[97]⟩, .slice (some ⟨B, 0, none⟩) 1 1] 25)).setCell ⟨B, 1, none⟩ (.float .f64 x) = W3 at *
        refine (unhide CK).mono ?_
        rintro e V4 ⟨rfl, v4⟩
        have XC4 := hide (later_block v4 (unhide XC3))
        have B4 := hide ((unhide B3).trans (v4.mono (unhide B3).size))
        have PC := hide (unhide PK V4 v4)
        clear v4 CK PK c0 c1 c2 c3 c4 c5 c6 c7 XC3
        have d0 := fcell0 (unhide XC4) 0 (.int .i64 1) rfl
        have d1 := fcell0 (unhide XC4) 1 (.int .i64 0) rfl
        have d2 := fcell0 (unhide XC4) 2 (.int .i64 0) rfl
        have d3 := fcell0 (unhide XC4) 3 (.int .i64 (-1)) rfl
        have d4 := fcell0 (unhide XC4) 4 (.string ⟨#[]⟩) rfl
        have d5 := fcell0 (unhide XC4) 5 (.string ⟨#[]⟩) rfl
        have d6 := fcell0 (unhide XC4) 6 (.string ⟨#[97]⟩) rfl
        have d7 := fcell0 (unhide XC4) 7 (.slice (some ⟨B, 0, none⟩) 1 1) rfl
        go_wp2_with fail
        refine (unhide PC).mono ?_
        rintro e V5 ⟨sp, n, cc, rfl, hn, ho, v5⟩
        have B5 := hide ((unhide B4).trans (v5.mono (unhide B4).size))
        rw [unhide PV] at hn
        have hn0 : n = 0 := hn.symm
        subst hn0
        have LV := hide (live8_calls V5 (unhide MX V5 (unhide B5)))
        clear ho v5 hn PC d0 d1 d2 d3 d4 d5 d6 d7
        go_wp2_with fail
        refine (unhide LV).mono ?_
        rintro e V6 ⟨rfl, v6⟩
        have B6 := hide ((unhide B5).trans (v6.mono (unhide B5).size))
        clear v6 LV
        go_wp2
        go_ret
        exact ⟨rfl, unhide B6⟩

set_option maxRecDepth 100000 in
theorem lifted (os : Os) (started : os.Started) (H : Type) (enc : TypeId × Value → H) :
    ReturnsInHanded {} Tryz.checked os 6 .any (fun w args => (Rows.confWeightsSpec.pre enc Tryz.prog Tryz.f6 Rows.confWeightsRow.domain false w args ∧ laidMetH Tryz.prog Rows.confWeightsRow.laid w) ∧ sizedMet enc Tryz.prog Tryz.f6 (OpenSpec.ofChange Rows.confWeightsSpec) false w args)
      (Rows.confWeightsSpec.post enc Tryz.prog Tryz.f6 false true false false) := by
  refine handed_both (C := Tryz.checked) (X := fun w _ => laidMetH Tryz.prog Rows.confWeightsRow.laid w) (fun _ _ _ hh h => h.of_heap hh) own started (by kernel_rfl) Tryz.func6
    (ChangeSpec.witness_shaped (enc := enc) (C := Tryz.checked) (os := os) (X := fun w _ => laidMetH Tryz.prog Rows.confWeightsRow.laid w) false (World.laidAll Tryz.prog os Rows.confWeightsRow.laid) #[.int .u64 0] 8 (World.laidAll_os _ _ _)
      (World.shaped_of_ZipB (by kernel_rfl) (by kernel_rfl)) (by kernel_rfl) (by kernel_rfl) (by kernel_rfl)
      (by rw [MakeChecks.laidMetH_plain _ _ _ (by kernel_rfl)]; exact laidMet_laidAll _ (by kernel_rfl) (by kernel_rfl))) ?_
  intro W base args ds gs before hval0 hW hcnd hsz hL hsh _
  have hLz : Lz W := lz_of (by rw [MakeChecks.laidMetH_plain _ _ _ (by kernel_rfl)] at hL; exact hL) hsh
  have hval : ∀ (j : Nat) t v, Tryz.f6.params[j]? = some t → args[j]? = some v → Value.okWide Tryz.prog W .any base t v := hval0
  have hW' := hW
  obtain ⟨p, q, hA0, hV, rfl, hfz, hnd⟩ := hW
  have hA : DataW.TrodAll enc Tryz.prog W 0 (fun _ => true) true Tryz.f6.params.toList args.toList ds p := hA0
  rw [Tryz.params6] at hA hval
  obtain ⟨v0, vs0, d0, ds0, p0, q0, hargs, rfl, rfl, h0, r0⟩ := trodAll_cons hA
  obtain ⟨rfl, rfl, rfl⟩ := trodAll_nil r0
  obtain rfl : args = #[v0] := by cases args; simp_all
  obtain ⟨rfl, rfl⟩ := trodVars_none hV
  obtain ⟨n0, rfl, rfl, rfl, w0⟩ := open_int Tryz.underlying38 (hval 0 38 v0 rfl rfl) h0
  obtain ⟨n0, rfl, hn0⟩ := u64_nat w0
  clear hA0 hval0
  refine (walk n0 W hn0 hLz).mono fun e W' ⟨he, bel⟩ => ?_
  subst he
  exact ⟨_, rfl, _, _, _, [], _, [], hW', trodAll_mk1 (shut_bool Tryz.underlying4 _), (trodAll_cons_mk (shut_int Tryz.underlying38 w0) trodAll_mk0), rfl, bel.frame _, fun h => by cases h⟩

theorem proved : Rows.ConfWeightsSaid :=
  OpenClaim.holds_of_wide 6 Tryz.f6 rfl rfl rfl rfl rfl rfl rfl ⟨rfl, rfl, rfl, rfl, rfl⟩ rfl rfl rfl rfl rfl (by kernel_rfl) Tryz.func6 (by kernel_rfl)
    (of_decide_eq_true (by kernel_rfl)) (by unfold Func.isWrapper; first | (rw [if_pos (by decide +kernel)]; kernel_rfl) | (rw [if_neg (by decide +kernel)]; exact ⟨rfl, rfl⟩))
    (fun os started H enc _ => lifted os started H enc)
theorem card : Rows.ConfWeightsCardSaid :=
  Claim7.holds_tied_plain_at .later [] [.data, .pinned] true (true, "b7fa9f903173f51ff5646f2ce31a9d2e1f2bb21ed41642c1f1054eddabb198cc") true proved (fun _ h => by cases h) (by kernel_rfl) (fun _ h => by cases h) confWeights_row_tie rfl ⟨rfl, rfl⟩ (by kernel_rfl) rfl
    (fun f fn hf hfn => by
      obtain rfl : f = 6 := Option.some.inj ((show Tryz.prog.funcNamed "tollgate/tollgatelaw08.ConfWeights" = some 6 by kernel_rfl).symm.trans hf) |>.symm
      obtain rfl : fn = Tryz.f6 := (Option.some.inj (Tryz.func6.symm.trans hfn)).symm
      exact ⟨by kernel_rfl, fun j t ht => by
        rw [Tryz.params6] at ht
        have hm : t ∈ [38] := by simpa using Array.mem_of_getElem? ht
        have hall : ([38].all fun u => !Tryz.prog.wantsStandIn u) = true := by kernel_rfl
        exact (show Tryz.prog.wantsStandIn t = false by simpa using List.all_eq_true.1 hall t hm)⟩)
    (by kernel_rfl)
end Go.Proofs.YtpkpnedcecjlbaaGreatDoor.confWeights
namespace Go.Proofs.YtpkpnedcecjlbaaGreatDoor
theorem confWeights_holds : Rows.ConfWeightsCardSaid := confWeights.card
#print axioms confWeights_holds
end Go.Proofs.YtpkpnedcecjlbaaGreatDoor
