/- Disk: a file's crash. -/
import Derived.Test.YtijcpmbfhfppmaaGreatDoorDk7
namespace Go.Proofs.YtijcpmbfhfppmaaGreatDoor
open Go.ChangeShapes Go.WideShapes Go.ChangeAt Go.RowKit

/-- How a file's crash ends. -/
def CrashEnd (base : Nat) (w : World) (F : Nat) (f : Fil) (U : Nat) (e : Ending) (w' : World) : Prop :=
  (f.la = false ∧ (crashL (f.xs.map (·.1)) f.y U).2 = U ∧ e = .returned (.bool false) ∧ ∃ g, FGrew F w f w' g) ∨
  (¬ (f.la = false ∧ (crashL (f.xs.map (·.1)) f.y U).2 = U) ∧ e = .returned (.bool true) ∧ ∃ g, FileAt base w' F g ∧ FGrew F w f w' g ∧ g.b = (crashL (f.xs.map (·.1)) f.y U).1 ∧ g.y = (crashL (f.xs.map (·.1)) f.y U).1 ∧ g.la = true ∧ g.xs = [])
theorem ontoC_le (c : Chg) (y : List Nat) (u : Nat) (hk : c.2.1 ≤ y.length) : (ontoC c y u).length ≤ y.length + c.2.2.length := by
  unfold ontoC
  split
  · rw [List.length_take]; omega
  · rw [overL_length _ _ _ hk, List.length_take]; omega
set_option maxRecDepth 20000 in
set_option maxHeartbeats 40000000 in
theorem crash_calls (base : Nat) (w : World) (F : Nat) (f : Fil) (h : FileAt base w F f) (U : Nat) (hU : U ≤ 9223372036854775807) (hx : f.xs.length ≤ 1000000000) (hfit : fitsC (f.xs.map (·.1)) f.y) (hy : f.y.length ≤ 140737488355328) (hbs : base ≤ w.heap.size) :
    Calls Tryz.prog 74 #[.pointer (some ⟨F, 0, none⟩), .int .i64 (U : Int)] w (CrashEnd base w F f U) := by
  have c3 := h.c3
  have H := hide h
  have HF := hide hfit
  have HY := hide hy
  have HB := hide hbs
  clear h hfit hy hbs
  go_enter Tryz.func74, Tryz.ntmps74
  go_wp2_with fail
  go_loopw [5, 15] (fun v i wr => ∃ (j L : Nat) (g : Fil), j ≤ f.xs.length ∧ L ≤ U ∧ v = .int .i64 (L : Int) ∧ i = .int .i64 (j : Int) ∧ Hid (FileAt base wr F g) ∧ Hid (FGrew F w f wr g) ∧ Hid (g.xs = f.xs ∧ g.cp = f.cp ∧ g.cc = f.cc ∧ g.la = f.la) ∧ Hid (crashL ((f.xs.drop j).map (·.1)) g.y L = crashL (f.xs.map (·.1)) f.y U) ∧ Hid (0 < L → fitsC ((f.xs.drop j).map (·.1)) g.y) ∧ Hid (g.y.length ≤ 140737488355328)) (fun _ i _ => f.xs.length - (intOf i).toNat)
  case atStart => exact ⟨0, U, f, by omega, Nat.le_refl _, rfl, rfl, unhide H, FGrew.refl _ _ _, ⟨rfl, rfl, rfl, rfl⟩, rfl, fun _ => unhide HF, unhide HY⟩
  case round =>
    obtain ⟨j, L, g, hj, hL, rfl, rfl, HG, GG, HS, HC, HT, HYG⟩ := hrel
    by_cases hjn : j < f.xs.length
    · have hj0 : (0 : Int) ≤ (j : Int) := by omega
      have hj1 : (j : Int) < (f.xs.length : Int) := by omega
      have OC := hide (show OwnC base wr f.cp f.cc f.xs by
        have h1 := (unhide HG).chs
        rw [(unhide HS).1, (unhide HS).2.1, (unhide HS).2.2.1] at h1
        exact h1)
      obtain ⟨gb, hgb, p0, p1, p2⟩ := (unhide OC).cell j hjn
      have HX := hide (show f.xs[j] ∈ g.xs by rw [(unhide HS).1]; exact List.getElem_mem hjn)
      have HDR := hide (List.drop_eq_getElem_cons hjn)
      generalize f.xs[j] = x at *
      have DX := hide ((unhide HG).chs.dat x (unhide HX))
      have NX := hide (fun g0 hg0 => ((unhide HG).far x (unhide HX) g0 hg0).2)
      have bA := hide (show Below wr.heap.size wr (wr.alloc (.cells #[.bool x.1.1, .int .i64 (x.1.2.1 : Int), .slice x.2.1 x.1.2.2.length x.2.2] 152)) from (Below.refl _ _).alloc (Nat.le_refl _) _)
      by_cases hL0 : L = 0
      · subst hL0
        have HE := hide (show crashL (f.xs.map (·.1)) f.y U = (g.y, 0) by rw [← unhide HC, crashL_zero])
        rw [hgb]
        have FAh := hide ((unhide HG).later (unhide bA))
        have FGh := hide ((unhide GG).trans (FGrew.ofBelow (unhide bA)))
        have t1 := (unhide FAh).c1
        have t2 := (unhide FAh).c2
        have TB := hide (unhide FAh).sure.bytes
        have TZ := hide (unhide FAh).sure.nil0
        have TC := hide (fun (V : World) hb => (unhide FAh).crash3 (V := V) (Nat.le_trans (unhide HB) (unhide FGh).size) hb)
        rw [(unhide HS).2.2.2] at t2
        by_cases hq : f.la = false ∧ 0 = U
        · have hLU : ((0 : Nat) : Int) = (U : Int) := by rw [hq.2]
          have HQ := hide hq
          rw [hq.1] at t2
          clear hq
          go_wp2
          go_ret
          exact Or.inl ⟨(unhide HQ).1, by rw [unhide HE]; exact (unhide HQ).2, rfl, g, unhide FGh⟩
        · have HQ := hide hq
          have HQ2 := hide (show ¬ (f.la = false ∧ (crashL (f.xs.map (·.1)) f.y U).2 = U) by rw [unhide HE]; exact hq)
          cases hla : f.la with
          | true =>
            rw [hla] at t2
            clear hq
            go_wp2_with (go_at_call 77; refine (fresh_calls g.yp g.y.length g.yc g.y _ rfl (unhide HYG) (unhide TB) (unhide TZ)).mono ?_; rintro e1 V ⟨dp, rfl, hdo, hbV⟩; obtain ⟨k1, k2, k3, k4⟩ := unhide TC V hbV dp hdo; have v0 := ((unhide FAh).later hbV).c0; have x0 := ((unhide FAh).later hbV).fz 0; have v2 := k1.c2; have x2 := k1.fz 2; have v3 := k2.c3; have x3 := k2.fz 3; have K3 := hide k3; have K4 := hide k4; clear k1 k2 k3 k4 hdo hbV)
            go_ret
            exact Or.inr ⟨unhide HQ2, rfl, g.crashed dp, unhide K3, (unhide FGh).trans (unhide K4), by rw [unhide HE]; rfl, by rw [unhide HE]; rfl, rfl, rfl⟩
          | false =>
            rw [hla] at t2
            have hLU : ¬ ((0 : Nat) : Int) = (U : Int) := fun e => hq ⟨hla, by omega⟩
            clear hq
            go_wp2_with (go_at_call 77; refine (fresh_calls g.yp g.y.length g.yc g.y _ rfl (unhide HYG) (unhide TB) (unhide TZ)).mono ?_; rintro e1 V ⟨dp, rfl, hdo, hbV⟩; obtain ⟨k1, k2, k3, k4⟩ := unhide TC V hbV dp hdo; have v0 := ((unhide FAh).later hbV).c0; have x0 := ((unhide FAh).later hbV).fz 0; have v2 := k1.c2; have x2 := k1.fz 2; have v3 := k2.c3; have x3 := k2.fz 3; have K3 := hide k3; have K4 := hide k4; clear k1 k2 k3 k4 hdo hbV)
            go_ret
            exact Or.inr ⟨unhide HQ2, rfl, g.crashed dp, unhide K3, (unhide FGh).trans (unhide K4), by rw [unhide HE]; rfl, by rw [unhide HE]; rfl, rfl, rfl⟩
      · have hLp : ¬ ((L : Int) = 0) := by omega
        have XA := hide (heap_new wr (.cells #[.bool x.1.1, .int .i64 (x.1.2.1 : Int), .slice x.2.1 x.1.2.2.length x.2.2] 152))
        have q0 := fcell (unhide XA) 0 (.bool x.1.1) rfl
        have q1 := fcell (unhide XA) 1 (.int .i64 (x.1.2.1 : Int)) rfl
        have q2 := fcell (unhide XA) 2 (.slice x.2.1 x.1.2.2.length x.2.2) rfl
        rw [hgb]
        go_wp2_with fail
        refine (units_calls x _).mono ?_
        rintro e W2 ⟨rfl, b2⟩
        have B2 := hide (show Below wr.heap.size wr W2 from (unhide bA).trans (b2.mono (unhide bA).size))
        have X2 := hide ((b2.block wr.heap.size (Array.getElem?_eq_some_iff.1 (unhide XA)).1).trans (unhide XA))
        have r0 := fcell (unhide X2) 0 (.bool x.1.1) rfl
        have r1 := fcell (unhide X2) 1 (.int .i64 (x.1.2.1 : Int)) rfl
        have r2 := fcell (unhide X2) 2 (.slice x.2.1 x.1.2.2.length x.2.2) rfl
        have H2 := hide ((unhide HG).later (unhide B2))
        have r3 := (unhide H2).c1
        clear b2 p0 p1 p2 q0 q1 q2
        have FT := hide (show x.1.2.1 ≤ g.y.length ∧ g.y.length + x.1.2.2.length ≤ 140737488355328 ∧ fitsC ((f.xs.drop (j + 1)).map (·.1)) (ontoC x.1 g.y (unitsC x.1)) by
          have h1 := unhide HT (by omega)
          rw [unhide HDR] at h1
          exact h1)
        have DX2 := hide ((unhide DX).later (unhide B2))
        have SB := hide (show base ≤ W2.heap.size from Nat.le_trans (Nat.le_trans (unhide HB) (unhide GG).size) (unhide B2).size)
        have G2 := hide ((unhide GG).trans (FGrew.ofBelow (unhide B2)))
        have HN0 := hide (show crashL ((f.xs.drop (j + 1)).map (·.1)) (ontoC x.1 g.y (min L (unitsC x.1))) (L - min L (unitsC x.1)) = crashL ((f.xs.drop j).map (·.1)) g.y L by
          rw [unhide HDR, List.map_cons, crashL, if_neg hL0])
        go_wp2
        all_goals first
          | (have hcase : L ≤ unitsC x.1 := by omega
             have HN := hide (show crashL ((f.xs.drop (j + 1)).map (·.1)) (ontoC x.1 g.y L) (L - L) = crashL ((f.xs.drop j).map (·.1)) g.y L by
               have h1 := unhide HN0
               rw [show min L (unitsC x.1) = L by omega] at h1
               exact h1)
             have HM := hide (show min L (unitsC x.1) = L by omega)
             have hsub : IntKind.i64.wrap ((L : Int) - ((L : Nat) : Int)) = ((L - L : Nat) : Int) := by rw [IntKind.wrap_i64]; omega
             have hU1 := hide (show x.1.1 = false → L ≤ x.1.2.2.length from fun e => by
               have h1 : unitsC x.1 = x.1.2.2.length := by simp [unitsC, e]
               omega)
             have hFT := hide (show 0 < L - L → L = unitsC x.1 from fun h => by omega)
             have hLm := hide (show L - L ≤ U by omega)
             go_region_law (go_simp; go_at_call 110; refine (onto_calls base _ x g.yp g.yc g.y L (by first | exact (unhide H2).sure | exact ⟨(unhide H2).sure.lt, (unhide H2).sure.row⟩) (by first | exact unhide DX2 | exact ⟨(unhide DX2).lt, (unhide DX2).row⟩) (unhide FT).1 (unhide hU1) (unhide NX) (unhide FT).2.1 (by exact unhide SB)).mono ?_; rintro e3 W3 ⟨yp, yc, rfl, hX, hG⟩; obtain ⟨v1, x1, k3, k4⟩ := (unhide H2).overY yp yc (ontoC x.1 g.y L) hX ⟨⟨hG.grown.os, hG.grown.tape, hG.grown.output, hG.grown.size, hG.grown.block⟩, hG.lies⟩; have K3 := hide k3; have K4 := hide k4; clear hX hG k3 k4)
             all_goals
               go_wp2
               refine ⟨⟨j + 1, L - L, g.overY yp yc (ontoC x.1 g.y L), by omega, unhide hLm, by rw [Value.int.injEq]; exact ⟨rfl, by omega⟩, by rw [Value.int.injEq]; exact ⟨rfl, by omega⟩, unhide K3, (unhide G2).trans (unhide K4), ?_, ?_, ?_, ?_⟩, by simp [intOf]; omega⟩
               · exact hide ⟨(unhide HS).1, by rw [← hgb]; exact (unhide HS).2.1, (unhide HS).2.2.1, (unhide HS).2.2.2⟩
               · exact hide ((unhide HN).trans (unhide HC)) 
               · exact hide (fun h => by rw [show (g.overY yp yc (ontoC x.1 g.y L)).y = ontoC x.1 g.y (unitsC x.1) by rw [← unhide hFT h]; rfl]; exact (unhide FT).2.2)
               · exact hide (Nat.le_trans (ontoC_le x.1 g.y L (unhide FT).1) (unhide FT).2.1))
          | (have hcase : unitsC x.1 ≤ L := by omega
             have HN := hide (show crashL ((f.xs.drop (j + 1)).map (·.1)) (ontoC x.1 g.y (unitsC x.1)) (L - unitsC x.1) = crashL ((f.xs.drop j).map (·.1)) g.y L by
               have h1 := unhide HN0
               rw [show min L (unitsC x.1) = unitsC x.1 by omega] at h1
               exact h1)
             have HM := hide (show min L (unitsC x.1) = (unitsC x.1) by omega)
             have hsub : IntKind.i64.wrap ((L : Int) - (((unitsC x.1) : Nat) : Int)) = ((L - (unitsC x.1) : Nat) : Int) := by rw [IntKind.wrap_i64]; omega
             have hU1 := hide (show x.1.1 = false → (unitsC x.1) ≤ x.1.2.2.length from fun e => by
               have h1 : unitsC x.1 = x.1.2.2.length := by simp [unitsC, e]
               omega)
             have hFT := hide (show 0 < L - (unitsC x.1) → (unitsC x.1) = unitsC x.1 from fun h => by omega)
             have hLm := hide (show L - (unitsC x.1) ≤ U by omega)
             go_region_law (go_simp; go_at_call 110; refine (onto_calls base _ x g.yp g.yc g.y (unitsC x.1) (by first | exact (unhide H2).sure | exact ⟨(unhide H2).sure.lt, (unhide H2).sure.row⟩) (by first | exact unhide DX2 | exact ⟨(unhide DX2).lt, (unhide DX2).row⟩) (unhide FT).1 (unhide hU1) (unhide NX) (unhide FT).2.1 (by exact unhide SB)).mono ?_; rintro e3 W3 ⟨yp, yc, rfl, hX, hG⟩; obtain ⟨v1, x1, k3, k4⟩ := (unhide H2).overY yp yc (ontoC x.1 g.y (unitsC x.1)) hX ⟨⟨hG.grown.os, hG.grown.tape, hG.grown.output, hG.grown.size, hG.grown.block⟩, hG.lies⟩; have K3 := hide k3; have K4 := hide k4; clear hX hG k3 k4)
             all_goals
               go_wp2
               refine ⟨⟨j + 1, L - (unitsC x.1), g.overY yp yc (ontoC x.1 g.y (unitsC x.1)), by omega, unhide hLm, by rw [Value.int.injEq]; exact ⟨rfl, by omega⟩, by rw [Value.int.injEq]; exact ⟨rfl, by omega⟩, unhide K3, (unhide G2).trans (unhide K4), ?_, ?_, ?_, ?_⟩, by simp [intOf]; omega⟩
               · exact hide ⟨(unhide HS).1, by rw [← hgb]; exact (unhide HS).2.1, (unhide HS).2.2.1, (unhide HS).2.2.2⟩
               · exact hide ((unhide HN).trans (unhide HC)) 
               · exact hide (fun h => by rw [show (g.overY yp yc (ontoC x.1 g.y (unitsC x.1))).y = ontoC x.1 g.y (unitsC x.1) by rw [← unhide hFT h]; rfl]; exact (unhide FT).2.2)
               · exact hide (Nat.le_trans (ontoC_le x.1 g.y (unitsC x.1) (unhide FT).1) (unhide FT).2.1))
    · have HE := hide (show crashL (f.xs.map (·.1)) f.y U = (g.y, L) by rw [← unhide HC, List.drop_of_length_le (by omega)]; rfl)
      have hj2 : ¬ ((j : Int) < (f.xs.length : Int)) := by omega
      have FAh := hide (unhide HG)
      have FGh := hide (unhide GG)
      have t1 := (unhide FAh).c1
      have t2 := (unhide FAh).c2
      have TB := hide (unhide FAh).sure.bytes
      have TZ := hide (unhide FAh).sure.nil0
      have TC := hide (fun (V : World) hb => (unhide FAh).crash3 (V := V) (Nat.le_trans (unhide HB) (unhide FGh).size) hb)
      rw [(unhide HS).2.2.2] at t2
      by_cases hq : f.la = false ∧ L = U
      · have hLU : ((L : Nat) : Int) = (U : Int) := by rw [hq.2]
        have HQ := hide hq
        rw [hq.1] at t2
        clear hq
        go_wp2
        go_ret
        exact Or.inl ⟨(unhide HQ).1, by rw [unhide HE]; exact (unhide HQ).2, rfl, g, unhide FGh⟩
      · have HQ := hide hq
        have HQ2 := hide (show ¬ (f.la = false ∧ (crashL (f.xs.map (·.1)) f.y U).2 = U) by rw [unhide HE]; exact hq)
        cases hla : f.la with
        | true =>
          rw [hla] at t2
          clear hq
          go_wp2_with (go_at_call 77; refine (fresh_calls g.yp g.y.length g.yc g.y _ rfl (unhide HYG) (unhide TB) (unhide TZ)).mono ?_; rintro e1 V ⟨dp, rfl, hdo, hbV⟩; obtain ⟨k1, k2, k3, k4⟩ := unhide TC V hbV dp hdo; have v0 := ((unhide FAh).later hbV).c0; have x0 := ((unhide FAh).later hbV).fz 0; have v2 := k1.c2; have x2 := k1.fz 2; have v3 := k2.c3; have x3 := k2.fz 3; have K3 := hide k3; have K4 := hide k4; clear k1 k2 k3 k4 hdo hbV)
          go_ret
          exact Or.inr ⟨unhide HQ2, rfl, g.crashed dp, unhide K3, (unhide FGh).trans (unhide K4), by rw [unhide HE]; rfl, by rw [unhide HE]; rfl, rfl, rfl⟩
        | false =>
          rw [hla] at t2
          have hLU : ¬ ((L : Nat) : Int) = (U : Int) := fun e => hq ⟨hla, by omega⟩
          clear hq
          go_wp2_with (go_at_call 77; refine (fresh_calls g.yp g.y.length g.yc g.y _ rfl (unhide HYG) (unhide TB) (unhide TZ)).mono ?_; rintro e1 V ⟨dp, rfl, hdo, hbV⟩; obtain ⟨k1, k2, k3, k4⟩ := unhide TC V hbV dp hdo; have v0 := ((unhide FAh).later hbV).c0; have x0 := ((unhide FAh).later hbV).fz 0; have v2 := k1.c2; have x2 := k1.fz 2; have v3 := k2.c3; have x3 := k2.fz 3; have K3 := hide k3; have K4 := hide k4; clear k1 k2 k3 k4 hdo hbV)
          go_ret
          exact Or.inr ⟨unhide HQ2, rfl, g.crashed dp, unhide K3, (unhide FGh).trans (unhide K4), by rw [unhide HE]; rfl, by rw [unhide HE]; rfl, rfl, rfl⟩
end Go.Proofs.YtijcpmbfhfppmaaGreatDoor
