/- Disk: a file's crash. -/
import Derived.Test.YtagncghpfdjkmaaGreatDoorB03
import Derived.Lib.ConvBytes
import Derived.Maps.OwnSet
import Derived.Maps.Views
import Derived.Sort.KeysCollected
import Derived.StringKeys
section
namespace Go.Proofs.YtagncghpfdjkmaaGreatDoor
open Go.ChangeShapes Go.WideShapes Go.ChangeAt Go.RowKit

/-- How a file's crash ends. -/
def CrashEnd (base : Nat) (w : World) (F : Nat) (f : Fil) (U : Nat) (e : Ending) (w' : World) : Prop :=
  (f.la = false ∧ (crashL (f.xs.map (·.1)) f.y U).2 = U ∧ e = .returned (.bool false) ∧ ∃ g, FGrew F w f w' g) ∨
  (¬ (f.la = false ∧ (crashL (f.xs.map (·.1)) f.y U).2 = U) ∧ e = .returned (.bool true) ∧ ∃ g, FileAt base w' F g ∧ FGrew F w f w' g ∧ g.b = (crashL (f.xs.map (·.1)) f.y U).1 ∧ g.y = (crashL (f.xs.map (·.1)) f.y U).1 ∧ g.la = true ∧ g.xs = [])
theorem ontoC_le (c : Chg) (y : List Nat) (u : Nat) (hk : c.2.1 ≤ y.length) : (ontoC c y u).length ≤ y.length + c.2.2.length := by
  unfold ontoC
  split
  · rw [List.length_take]; omega
  · rw [overL_length _ _ _ hk, List.length_take]; omega
set_option maxRecDepth 20000 in
set_option maxHeartbeats 40000000 in
theorem crash_calls (base : Nat) (w : World) (F : Nat) (f : Fil) (h : FileAt base w F f) (U : Nat) (hU : U ≤ 9223372036854775807) (hx : f.xs.length ≤ 1000000000) (hfit : fitsC (f.xs.map (·.1)) f.y) (hy : f.y.length ≤ 140737488355328) (hbs : base ≤ w.heap.size) :
    Calls Tryz.prog 79 #[.pointer (some ⟨F, 0, none⟩), .int .i64 (U : Int)] w (CrashEnd base w F f U) := by
  have c3 := h.c3
  have H := hide h
  have HF := hide hfit
  have HY := hide hy
  have HB := hide hbs
  clear h hfit hy hbs
  go_enter Tryz.func79, Tryz.ntmps79
  go_wp2_with fail
  go_loopw [5, 15] (fun v i wr => ∃ (j L : Nat) (g : Fil), j ≤ f.xs.length ∧ L ≤ U ∧ v = .int .i64 (L : Int) ∧ i = .int .i64 (j : Int) ∧ Hid (FileAt base wr F g) ∧ Hid (FGrew F w f wr g) ∧ Hid (g.xs = f.xs ∧ g.cp = f.cp ∧ g.cc = f.cc ∧ g.la = f.la) ∧ Hid (crashL ((f.xs.drop j).map (·.1)) g.y L = crashL (f.xs.map (·.1)) f.y U) ∧ Hid (0 < L → fitsC ((f.xs.drop j).map (·.1)) g.y) ∧ Hid (g.y.length ≤ 140737488355328)) (fun _ i _ => f.xs.length - (intOf i).toNat)
  case atStart => exact ⟨0, U, f, by omega, Nat.le_refl _, rfl, rfl, unhide H, FGrew.refl _ _ _, ⟨rfl, rfl, rfl, rfl⟩, rfl, fun _ => unhide HF, unhide HY⟩
  case round =>
    obtain ⟨j, L, g, hj, hL, rfl, rfl, HG, GG, HS, HC, HT, HYG⟩ := hrel
    by_cases hjn : j < f.xs.length
    · have hj0 : (0 : Int) ≤ (j : Int) := by omega
      have hj1 : (j : Int) < (f.xs.length : Int) := by omega
      have OC := hide (show OwnC base wr f.cp f.cc f.xs by
        have h1 := (unhide HG).chs
        rw [(unhide HS).1, (unhide HS).2.1, (unhide HS).2.2.1] at h1
        exact h1)
      obtain ⟨gb, hgb, p0, p1, p2⟩ := (unhide OC).cell j hjn
      have HX := hide (show f.xs[j] ∈ g.xs by rw [(unhide HS).1]; exact List.getElem_mem hjn)
      have HDR := hide (List.drop_eq_getElem_cons hjn)
      generalize f.xs[j] = x at *
      have DX := hide ((unhide HG).chs.dat x (unhide HX))
      have NX := hide (fun g0 hg0 => ((unhide HG).far x (unhide HX) g0 hg0).2)
      have bA := hide (show Below wr.heap.size wr (wr.alloc (.cells #[.bool x.1.1, .int .i64 (x.1.2.1 : Int), .slice x.2.1 x.1.2.2.length x.2.2] 164)) from (Below.refl _ _).alloc (Nat.le_refl _) _)
      by_cases hL0 : L = 0
      · subst hL0
        have HE := hide (show crashL (f.xs.map (·.1)) f.y U = (g.y, 0) by rw [← unhide HC, crashL_zero])
        rw [hgb]
        have FAh := hide ((unhide HG).later (unhide bA))
        have FGh := hide ((unhide GG).trans (FGrew.ofBelow (unhide bA)))
        have t1 := (unhide FAh).c1
        have t2 := (unhide FAh).c2
        have TB := hide (unhide FAh).sure.bytes
        have TZ := hide (unhide FAh).sure.nil0
        have TC := hide (fun (V : World) hb => (unhide FAh).crash3 (V := V) (Nat.le_trans (unhide HB) (unhide FGh).size) hb)
        rw [(unhide HS).2.2.2] at t2
        by_cases hq : f.la = false ∧ 0 = U
        · have hLU : ((0 : Nat) : Int) = (U : Int) := by rw [hq.2]
          have HQ := hide hq
          rw [hq.1] at t2
          clear hq
          go_wp2
          go_ret
          exact Or.inl ⟨(unhide HQ).1, by rw [unhide HE]; exact (unhide HQ).2, rfl, g, unhide FGh⟩
        · have HQ := hide hq
          have HQ2 := hide (show ¬ (f.la = false ∧ (crashL (f.xs.map (·.1)) f.y U).2 = U) by rw [unhide HE]; exact hq)
          cases hla : f.la with
          | true =>
            rw [hla] at t2
            clear hq
            go_wp2_with (go_at_call 116; refine (fresh_calls g.yp g.y.length g.yc g.y _ rfl (unhide HYG) (unhide TB) (unhide TZ)).mono ?_; rintro e1 V ⟨dp, rfl, hdo, hbV⟩; obtain ⟨k1, k2, k3, k4⟩ := unhide TC V hbV dp hdo; have v0 := ((unhide FAh).later hbV).c0; have x0 := ((unhide FAh).later hbV).fz 0; have v2 := k1.c2; have x2 := k1.fz 2; have v3 := k2.c3; have x3 := k2.fz 3; have K3 := hide k3; have K4 := hide k4; clear k1 k2 k3 k4 hdo hbV)
            go_ret
            exact Or.inr ⟨unhide HQ2, rfl, g.crashed dp, unhide K3, (unhide FGh).trans (unhide K4), by rw [unhide HE]; rfl, by rw [unhide HE]; rfl, rfl, rfl⟩
          | false =>
            rw [hla] at t2
            have hLU : ¬ ((0 : Nat) : Int) = (U : Int) := fun e => hq ⟨hla, by omega⟩
            clear hq
            go_wp2_with (go_at_call 116; refine (fresh_calls g.yp g.y.length g.yc g.y _ rfl (unhide HYG) (unhide TB) (unhide TZ)).mono ?_; rintro e1 V ⟨dp, rfl, hdo, hbV⟩; obtain ⟨k1, k2, k3, k4⟩ := unhide TC V hbV dp hdo; have v0 := ((unhide FAh).later hbV).c0; have x0 := ((unhide FAh).later hbV).fz 0; have v2 := k1.c2; have x2 := k1.fz 2; have v3 := k2.c3; have x3 := k2.fz 3; have K3 := hide k3; have K4 := hide k4; clear k1 k2 k3 k4 hdo hbV)
            go_ret
            exact Or.inr ⟨unhide HQ2, rfl, g.crashed dp, unhide K3, (unhide FGh).trans (unhide K4), by rw [unhide HE]; rfl, by rw [unhide HE]; rfl, rfl, rfl⟩
      · have hLp : ¬ ((L : Int) = 0) := by omega
        have XA := hide (heap_new wr (.cells #[.bool x.1.1, .int .i64 (x.1.2.1 : Int), .slice x.2.1 x.1.2.2.length x.2.2] 164))
        have q0 := fcell (unhide XA) 0 (.bool x.1.1) rfl
        have q1 := fcell (unhide XA) 1 (.int .i64 (x.1.2.1 : Int)) rfl
        have q2 := fcell (unhide XA) 2 (.slice x.2.1 x.1.2.2.length x.2.2) rfl
        rw [hgb]
        go_wp2_with fail
        refine (units_calls x _).mono ?_
        rintro e W2 ⟨rfl, b2⟩
        have B2 := hide (show Below wr.heap.size wr W2 from (unhide bA).trans (b2.mono (unhide bA).size))
        have X2 := hide ((b2.block wr.heap.size (Array.getElem?_eq_some_iff.1 (unhide XA)).1).trans (unhide XA))
        have r0 := fcell (unhide X2) 0 (.bool x.1.1) rfl
        have r1 := fcell (unhide X2) 1 (.int .i64 (x.1.2.1 : Int)) rfl
        have r2 := fcell (unhide X2) 2 (.slice x.2.1 x.1.2.2.length x.2.2) rfl
        have H2 := hide ((unhide HG).later (unhide B2))
        have r3 := (unhide H2).c1
        clear b2 p0 p1 p2 q0 q1 q2
        have FT := hide (show x.1.2.1 ≤ g.y.length ∧ g.y.length + x.1.2.2.length ≤ 140737488355328 ∧ fitsC ((f.xs.drop (j + 1)).map (·.1)) (ontoC x.1 g.y (unitsC x.1)) by
          have h1 := unhide HT (by omega)
          rw [unhide HDR] at h1
          exact h1)
        have DX2 := hide ((unhide DX).later (unhide B2))
        have SB := hide (show base ≤ W2.heap.size from Nat.le_trans (Nat.le_trans (unhide HB) (unhide GG).size) (unhide B2).size)
        have G2 := hide ((unhide GG).trans (FGrew.ofBelow (unhide B2)))
        have HN0 := hide (show crashL ((f.xs.drop (j + 1)).map (·.1)) (ontoC x.1 g.y (min L (unitsC x.1))) (L - min L (unitsC x.1)) = crashL ((f.xs.drop j).map (·.1)) g.y L by
          rw [unhide HDR, List.map_cons, crashL, if_neg hL0])
        go_wp2
        all_goals first
          | (have hcase : L ≤ unitsC x.1 := by omega
             have HN := hide (show crashL ((f.xs.drop (j + 1)).map (·.1)) (ontoC x.1 g.y L) (L - L) = crashL ((f.xs.drop j).map (·.1)) g.y L by
               have h1 := unhide HN0
               rw [show min L (unitsC x.1) = L by omega] at h1
               exact h1)
             have HM := hide (show min L (unitsC x.1) = L by omega)
             have hsub : IntKind.i64.wrap ((L : Int) - ((L : Nat) : Int)) = ((L - L : Nat) : Int) := by rw [IntKind.wrap_i64]; omega
             have hU1 := hide (show x.1.1 = false → L ≤ x.1.2.2.length from fun e => by
               have h1 : unitsC x.1 = x.1.2.2.length := by simp [unitsC, e]
               omega)
             have hFT := hide (show 0 < L - L → L = unitsC x.1 from fun h => by omega)
             have hLm := hide (show L - L ≤ U by omega)
             go_region_law (go_simp; go_at_call 115; refine (onto_calls base _ x g.yp g.yc g.y L (by first | exact (unhide H2).sure | exact ⟨(unhide H2).sure.lt, (unhide H2).sure.row⟩) (by first | exact unhide DX2 | exact ⟨(unhide DX2).lt, (unhide DX2).row⟩) (unhide FT).1 (unhide hU1) (unhide NX) (unhide FT).2.1 (by exact unhide SB)).mono ?_; rintro e3 W3 ⟨yp, yc, rfl, hX, hG⟩; obtain ⟨v1, x1, k3, k4⟩ := (unhide H2).overY yp yc (ontoC x.1 g.y L) hX ⟨⟨hG.grown.os, hG.grown.tape, hG.grown.output, hG.grown.size, hG.grown.block⟩, hG.lies⟩; have K3 := hide k3; have K4 := hide k4; clear hX hG k3 k4)
             all_goals
               go_wp2
               refine ⟨⟨j + 1, L - L, g.overY yp yc (ontoC x.1 g.y L), by omega, unhide hLm, by rw [Value.int.injEq]; exact ⟨rfl, by omega⟩, by rw [Value.int.injEq]; exact ⟨rfl, by omega⟩, unhide K3, (unhide G2).trans (unhide K4), ?_, ?_, ?_, ?_⟩, by simp [intOf]; omega⟩
               · exact hide ⟨(unhide HS).1, by rw [← hgb]; exact (unhide HS).2.1, (unhide HS).2.2.1, (unhide HS).2.2.2⟩
               · exact hide ((unhide HN).trans (unhide HC)) 
               · exact hide (fun h => by rw [show (g.overY yp yc (ontoC x.1 g.y L)).y = ontoC x.1 g.y (unitsC x.1) by rw [← unhide hFT h]; rfl]; exact (unhide FT).2.2)
               · exact hide (Nat.le_trans (ontoC_le x.1 g.y L (unhide FT).1) (unhide FT).2.1))
          | (have hcase : unitsC x.1 ≤ L := by omega
             have HN := hide (show crashL ((f.xs.drop (j + 1)).map (·.1)) (ontoC x.1 g.y (unitsC x.1)) (L - unitsC x.1) = crashL ((f.xs.drop j).map (·.1)) g.y L by
               have h1 := unhide HN0
               rw [show min L (unitsC x.1) = unitsC x.1 by omega] at h1
               exact h1)
             have HM := hide (show min L (unitsC x.1) = (unitsC x.1) by omega)
             have hsub : IntKind.i64.wrap ((L : Int) - (((unitsC x.1) : Nat) : Int)) = ((L - (unitsC x.1) : Nat) : Int) := by rw [IntKind.wrap_i64]; omega
             have hU1 := hide (show x.1.1 = false → (unitsC x.1) ≤ x.1.2.2.length from fun e => by
               have h1 : unitsC x.1 = x.1.2.2.length := by simp [unitsC, e]
               omega)
             have hFT := hide (show 0 < L - (unitsC x.1) → (unitsC x.1) = unitsC x.1 from fun h => by omega)
             have hLm := hide (show L - (unitsC x.1) ≤ U by omega)
             go_region_law (go_simp; go_at_call 115; refine (onto_calls base _ x g.yp g.yc g.y (unitsC x.1) (by first | exact (unhide H2).sure | exact ⟨(unhide H2).sure.lt, (unhide H2).sure.row⟩) (by first | exact unhide DX2 | exact ⟨(unhide DX2).lt, (unhide DX2).row⟩) (unhide FT).1 (unhide hU1) (unhide NX) (unhide FT).2.1 (by exact unhide SB)).mono ?_; rintro e3 W3 ⟨yp, yc, rfl, hX, hG⟩; obtain ⟨v1, x1, k3, k4⟩ := (unhide H2).overY yp yc (ontoC x.1 g.y (unitsC x.1)) hX ⟨⟨hG.grown.os, hG.grown.tape, hG.grown.output, hG.grown.size, hG.grown.block⟩, hG.lies⟩; have K3 := hide k3; have K4 := hide k4; clear hX hG k3 k4)
             all_goals
               go_wp2
               refine ⟨⟨j + 1, L - (unitsC x.1), g.overY yp yc (ontoC x.1 g.y (unitsC x.1)), by omega, unhide hLm, by rw [Value.int.injEq]; exact ⟨rfl, by omega⟩, by rw [Value.int.injEq]; exact ⟨rfl, by omega⟩, unhide K3, (unhide G2).trans (unhide K4), ?_, ?_, ?_, ?_⟩, by simp [intOf]; omega⟩
               · exact hide ⟨(unhide HS).1, by rw [← hgb]; exact (unhide HS).2.1, (unhide HS).2.2.1, (unhide HS).2.2.2⟩
               · exact hide ((unhide HN).trans (unhide HC)) 
               · exact hide (fun h => by rw [show (g.overY yp yc (ontoC x.1 g.y (unitsC x.1))).y = ontoC x.1 g.y (unitsC x.1) by rw [← unhide hFT h]; rfl]; exact (unhide FT).2.2)
               · exact hide (Nat.le_trans (ontoC_le x.1 g.y (unitsC x.1) (unhide FT).1) (unhide FT).2.1))
    · have HE := hide (show crashL (f.xs.map (·.1)) f.y U = (g.y, L) by rw [← unhide HC, List.drop_of_length_le (by omega)]; rfl)
      have hj2 : ¬ ((j : Int) < (f.xs.length : Int)) := by omega
      have FAh := hide (unhide HG)
      have FGh := hide (unhide GG)
      have t1 := (unhide FAh).c1
      have t2 := (unhide FAh).c2
      have TB := hide (unhide FAh).sure.bytes
      have TZ := hide (unhide FAh).sure.nil0
      have TC := hide (fun (V : World) hb => (unhide FAh).crash3 (V := V) (Nat.le_trans (unhide HB) (unhide FGh).size) hb)
      rw [(unhide HS).2.2.2] at t2
      by_cases hq : f.la = false ∧ L = U
      · have hLU : ((L : Nat) : Int) = (U : Int) := by rw [hq.2]
        have HQ := hide hq
        rw [hq.1] at t2
        clear hq
        go_wp2
        go_ret
        exact Or.inl ⟨(unhide HQ).1, by rw [unhide HE]; exact (unhide HQ).2, rfl, g, unhide FGh⟩
      · have HQ := hide hq
        have HQ2 := hide (show ¬ (f.la = false ∧ (crashL (f.xs.map (·.1)) f.y U).2 = U) by rw [unhide HE]; exact hq)
        cases hla : f.la with
        | true =>
          rw [hla] at t2
          clear hq
          go_wp2_with (go_at_call 116; refine (fresh_calls g.yp g.y.length g.yc g.y _ rfl (unhide HYG) (unhide TB) (unhide TZ)).mono ?_; rintro e1 V ⟨dp, rfl, hdo, hbV⟩; obtain ⟨k1, k2, k3, k4⟩ := unhide TC V hbV dp hdo; have v0 := ((unhide FAh).later hbV).c0; have x0 := ((unhide FAh).later hbV).fz 0; have v2 := k1.c2; have x2 := k1.fz 2; have v3 := k2.c3; have x3 := k2.fz 3; have K3 := hide k3; have K4 := hide k4; clear k1 k2 k3 k4 hdo hbV)
          go_ret
          exact Or.inr ⟨unhide HQ2, rfl, g.crashed dp, unhide K3, (unhide FGh).trans (unhide K4), by rw [unhide HE]; rfl, by rw [unhide HE]; rfl, rfl, rfl⟩
        | false =>
          rw [hla] at t2
          have hLU : ¬ ((L : Nat) : Int) = (U : Int) := fun e => hq ⟨hla, by omega⟩
          clear hq
          go_wp2_with (go_at_call 116; refine (fresh_calls g.yp g.y.length g.yc g.y _ rfl (unhide HYG) (unhide TB) (unhide TZ)).mono ?_; rintro e1 V ⟨dp, rfl, hdo, hbV⟩; obtain ⟨k1, k2, k3, k4⟩ := unhide TC V hbV dp hdo; have v0 := ((unhide FAh).later hbV).c0; have x0 := ((unhide FAh).later hbV).fz 0; have v2 := k1.c2; have x2 := k1.fz 2; have v3 := k2.c3; have x3 := k2.fz 3; have K3 := hide k3; have K4 := hide k4; clear k1 k2 k3 k4 hdo hbV)
          go_ret
          exact Or.inr ⟨unhide HQ2, rfl, g.crashed dp, unhide K3, (unhide FGh).trans (unhide K4), by rw [unhide HE]; rfl, by rw [unhide HE]; rfl, rfl, rfl⟩
end Go.Proofs.YtagncghpfdjkmaaGreatDoor
end
/- Disk: names. -/
section
namespace Go.Proofs.YtagncghpfdjkmaaGreatDoor
open Go.ChangeShapes Go.WideShapes Go.ChangeAt Go.RowKit

def stands (c : Nat) : Bool := (decide (97 ≤ c) && decide (c ≤ 122)) || ((decide (48 ≤ c) && decide (c ≤ 57)) || (decide (c = 45) || decide (c = 46)))
theorem mayStand_calls (c : Nat) (w : World) : Calls Tryz.prog 117 #[.int .u8 (c : Int)] w fun e w' => e = .returned (.bool (stands c)) ∧ w' = w := by
  go_enter Tryz.func117, Tryz.ntmps117
  go_wp2
  all_goals
    go_ret
    refine ⟨congrArg (fun b => Ending.returned (Value.bool b)) (?_ : _ = stands c), rfl⟩
    rw [Bool.eq_iff_iff]
    simp [stands]
    try omega
def nameOk (s : ByteArray) : Bool := decide (1 ≤ s.size) && (decide (s.size ≤ 64) && s.data.toList.all (fun b => stands b.toNat))
theorem bytesWorld_below (w : World) (s : ByteArray) : Below w.heap.size w (Lib.bytesWorld w 5 s) :=
  ⟨rfl, rfl, rfl, by rw [Lib.bytesWorld_size]; omega, fun j hj => Lib.bytesWorld_at_old w _ s j hj⟩
set_option maxRecDepth 20000 in
set_option maxHeartbeats 40000000 in
theorem isName_calls (s : ByteArray) (w : World) : Calls Tryz.prog 81 #[.string s] w fun e w' => e = .returned (.bool (nameOk s)) ∧ Below w.heap.size w w' := by
  have hcv := fun (u : World) => Lib.run_convert_string_bytes (P := Tryz.prog) u 9 27 5 s Tryz.underlying9 Tryz.underlying27 under5
  by_cases h1 : s.size < 1
  · have hi : (s.size : Int) < 1 := by omega
    have HN := hide (show nameOk s = false by simp [nameOk]; omega)
    go_enter Tryz.func81, Tryz.ntmps81
    go_wp2
    go_ret
    exact ⟨by rw [unhide HN]; rfl, Below.refl _ _⟩
  · by_cases h2 : 64 < s.size
    · have hi : ¬ (s.size : Int) < 1 := by omega
      have hi2 : (64 : Int) < (s.size : Int) := by omega
      have HN := hide (show nameOk s = false by simp [nameOk]; omega)
      go_enter Tryz.func81, Tryz.ntmps81
      go_wp2
      go_ret
      exact ⟨by rw [unhide HN]; rfl, Below.refl _ _⟩
    · have hi : ¬ (s.size : Int) < 1 := by omega
      have hi2 : ¬ (64 : Int) < (s.size : Int) := by omega
      have hlen : s.data.toList.length = s.size := by simp
      have HC := hide (fun j hj => Lib.bytesWorld_cell w 5 s j hj)
      have HB := hide (bytesWorld_below w s)
      go_enter Tryz.func81, Tryz.ntmps81
      go_wp2_with fail
      generalize Lib.bytesWorld w 5 s = W at *
      go_loopw [16] (fun i wr => ∃ j : Nat, j ≤ s.size ∧ i = .int .i64 (j : Int) ∧ Hid ((s.data.toList.take j).all (fun b => stands b.toNat) = true) ∧ Hid (wr = W)) (fun i _ => s.size - (intOf i).toNat)
      case atStart => exact ⟨0, by omega, rfl, by exact hide (by simp), hide rfl⟩
      case round =>
        obtain ⟨j, hj, rfl, HA, HW⟩ := hrel
        have hW := unhide HW
        subst hW
        by_cases hjn : j < s.size
        · have hj0 : (0 : Int) ≤ (j : Int) := by omega
          have hj1 : (j : Int) < (s.size : Int) := by omega
          have p0 := unhide HC j hjn
          have HT := hide (show s.data.toList.take (j + 1) = s.data.toList.take j ++ [s.data.toList.getD j 0] by
            rw [List.take_succ_eq_append_getElem (by omega), List.getD_eq_getElem?_getD, List.getElem?_eq_getElem (by omega)]; rfl)
          have HM := hide (show s.data.toList.getD j 0 ∈ s.data.toList by
            rw [List.getD_eq_getElem?_getD, List.getElem?_eq_getElem (by omega)]; exact List.getElem_mem (by omega))
          generalize s.data.toList.getD j 0 = b at *
          go_wp2_with fail
          refine (mayStand_calls b.toNat _).mono ?_
          rintro e w1 ⟨rfl, rfl⟩
          cases hp : stands b.toNat
          · have HN := hide (show nameOk s = false by
              have : s.data.toList.all (fun b => stands b.toNat) = false := by
                rw [List.all_eq_false]; exact ⟨b, unhide HM, by simp [hp]⟩
              simp [nameOk, this])
            go_wp2
            go_ret
            exact ⟨by rw [unhide HN]; rfl, unhide HB⟩
          · have HA2 := hide (show (s.data.toList.take (j + 1)).all (fun b => stands b.toNat) = true by
              rw [unhide HT, List.all_append, unhide HA]; simp [hp])
            go_wp2
            exact ⟨⟨j + 1, by omega, by go_num, unhide HA2, by first | exact hide trivial | exact hide rfl⟩, by simp [intOf]; omega⟩
        · have HN := hide (show nameOk s = true by
            have h3 := unhide HA
            rw [List.take_of_length_le (by omega)] at h3
            simp only [nameOk, h3, Bool.and_true, Bool.and_eq_true, decide_eq_true_eq]
            omega)
          go_wp2
          go_ret
          exact ⟨by rw [unhide HN]; rfl, unhide HB⟩
end Go.Proofs.YtagncghpfdjkmaaGreatDoor
end
/- Disk: changes cloned; a file's fork. -/
section
namespace Go.Proofs.YtagncghpfdjkmaaGreatDoor
open Go.ChangeShapes Go.WideShapes Go.ChangeAt Go.RowKit

theorem rowsC_oneCell (xs : List ChH) : ∀ u ∈ rowsC xs, u.oneCell' = true := by
  intro u hu
  simp only [rowsC, List.mem_flatMap] at hu
  obtain ⟨x, _, hx⟩ := hu
  exact ch_oneCell x u hx
theorem OwnC.news {base : Nat} {w : World} {sp : Option Addr} {c : Nat} {xs : List ChH} (h : OwnC base w sp c xs) (g : Nat) (hs : sp = some ⟨g, 0, none⟩) : ∀ j u, (rowsC xs)[j]? = some u → w.cell? ((⟨g, 0, none⟩ : Addr).add j) = some u := by
  intro j u hu
  rcases h.row.2 with ⟨hv, _⟩ | ⟨g1, cap, cur, hv, _, hg, _, _, _, ht⟩
  · simp only [Value.slice.injEq] at hv
    rw [hv.1] at hs; cases hs
  · simp only [Value.slice.injEq] at hv
    rw [hv.1] at hs
    obtain rfl : g1 = g := by simpa using hs
    rw [Addr.add_lit, Nat.zero_add, cell_of_row w g1 j cur _ _ hg]
    have hlt : j < xs.length * 3 := by rw [← rowsC_length]; exact (List.getElem?_eq_some_iff.1 hu).1
    rw [← ht, List.getElem?_take, if_pos hlt] at hu
    simpa using hu
/-- append([]change{}, s...). -/
theorem run_cloneC {base : Nat} {w : World} {sp : Option Addr} {c : Nat} {xs : List ChH} (h : OwnC base w sp c xs) (g : Nat) (hs : sp = some ⟨g, 0, none⟩) (E : Nat) (hE : w.heap[E]? = some (.cells #[] 164 (0, 0))) (hn : xs.length * 40 ≤ 140737488355328) (hsz : E ≤ w.heap.size) (ty : TypeId) :
    ∃ sp' c' w', (Builtin.append_ #[124, 124] ty #[.slice (some ⟨E, 0, none⟩) 0 0, .slice sp xs.length c]).run Tryz.prog w = .ok (.slice sp' xs.length c') w' ∧ w'.ownsRow E 164 3 (.slice sp' xs.length c') xs.length (rowsC xs) ∧ w.grownBy w' (some E) := by
  subst hs
  obtain ⟨i0, hi, hz0, hz1, hz2⟩ := info_parts infoC
  have he : w.ownsRow E 164 3 (.slice (some ⟨E, 0, none⟩) 0 0) 0 [] := ⟨rfl, .inr ⟨E, 0, #[], rfl, Nat.le_refl _, hE, Nat.le_refl _, by simp [maxLen], rfl, rfl⟩⟩
  obtain ⟨v', w', hrun, h1, h2, _, h5⟩ := run_append_own_at (P := Tryz.prog) w E 124 ty 164 i0 _ 3 40 Tryz.underlying124 hi hz0 hz1 hz2 rfl (by omega) _ _ _ he ⟨g, 0, none⟩ xs.length c (rowsC xs) (rowsC_length xs)
    (h.news g rfl) (rowsC_oneCell xs) (by simp only [maxLen]; omega) (by omega) hsz
  rw [List.nil_append, Nat.zero_add] at h1
  rw [ownBlock_slice] at h2
  have hv : ∃ sp' c', v' = .slice sp' xs.length c' := by
    rcases h1.2 with ⟨hv, h0⟩ | ⟨g, cap, cur, hv, _⟩
    · exact ⟨none, 0, by rw [hv, h0]⟩
    · exact ⟨_, _, hv⟩
  obtain ⟨sp', c', rfl⟩ := hv
  exact ⟨sp', c', w', hrun, h1, h2⟩
theorem ownsRow_mono {base base' : Nat} {w : World} {e : TypeId} {size n : Nat} {v : Value} {xs : List Value} (h : w.ownsRow base e size v n xs) (hb : base' ≤ base) : w.ownsRow base' e size v n xs := by
  refine ⟨h.1, ?_⟩
  rcases h.2 with hv | ⟨g, cap, cur, hv, hbg, r⟩
  · exact .inl hv
  · exact .inr ⟨g, cap, cur, hv, by omega, r⟩
theorem OwnC.mono {base base' : Nat} {w : World} {sp : Option Addr} {c : Nat} {xs : List ChH} (h : OwnC base w sp c xs) (hb : base' ≤ base) : OwnC base' w sp c xs := ⟨ownsRow_mono h.row hb, h.dat⟩
end Go.Proofs.YtagncghpfdjkmaaGreatDoor
end
/- Disk: rows of named things, by their names' order; a map of names to files in memory. -/
section
namespace Go.Proofs.YtagncghpfdjkmaaGreatDoor
open Go.ChangeShapes Go.WideShapes Go.ChangeAt Go.RowKit Go.Maps

abbrev Nm := List UInt8
theorem nm_irrefl (a : Nm) : ¬ a < a := List.lt_irrefl a
theorem nm_trans {a b c : Nm} (h : a < b) (k : b < c) : a < c := List.lt_trans h k
theorem nm_tri (a b : Nm) : a < b ∨ a = b ∨ b < a := by
  by_cases h : a < b
  · exact .inl h
  · by_cases k : b < a
    · exact .inr (.inr k)
    · exact .inr (.inl (List.le_antisymm (List.not_lt.1 k) (List.not_lt.1 h)))
section
variable {α β : Type}
def Rises (fs : List (Nm × α)) : Prop := fs.Pairwise (fun x y => x.1 < y.1)
def putF (k : Nm) (v : α) : List (Nm × α) → List (Nm × α)
  | [] => [(k, v)]
  | x :: r => if x.1 < k then x :: putF k v r else if x.1 = k then (k, v) :: r else (k, v) :: x :: r
def delF (k : Nm) (fs : List (Nm × α)) : List (Nm × α) := fs.filter (fun x => decide (x.1 ≠ k))
theorem Rises.nodup {fs : List (Nm × α)} (h : Rises fs) : (fs.map (·.1)).Nodup := by
  rw [List.Nodup, List.pairwise_map]
  refine List.Pairwise.imp ?_ (show fs.Pairwise (fun x y => x.1 < y.1) from h)
  intro a b hab e
  rw [e] at hab
  exact nm_irrefl _ hab
theorem Rises.one {fs : List (Nm × α)} (h : Rises fs) {x y : Nm × α} (hx : x ∈ fs) (hy : y ∈ fs) (e : x.1 = y.1) : x = y := by
  induction fs with
  | nil => simp at hx
  | cons z r ih =>
    have h1 := List.pairwise_cons.1 h
    rcases List.mem_cons.1 hx with hx | hx <;> rcases List.mem_cons.1 hy with hy | hy
    · rw [hx, hy]
    · exact absurd (show y.1 < y.1 by have := h1.1 y hy; rw [← hx, e] at this; exact this) (nm_irrefl _)
    · exact absurd (show y.1 < y.1 by have := h1.1 x hx; rw [← hy, e] at this; exact this) (nm_irrefl _)
    · exact ih h1.2 hx hy
theorem mem_putF {k : Nm} {v : α} : ∀ {fs : List (Nm × α)}, Rises fs → ∀ y, y ∈ putF k v fs ↔ (y = (k, v) ∨ (y ∈ fs ∧ y.1 ≠ k))
  | [], _, y => by simp [putF]
  | x :: r, h, y => by
    have h1 := List.pairwise_cons.1 h
    have hr : ∀ {z}, z ∈ r → ¬ x.1 < k → z.1 ≠ k := fun {z} hz hn e => hn (e ▸ h1.1 z hz)
    unfold putF
    by_cases h2 : x.1 < k
    · rw [if_pos h2, List.mem_cons, mem_putF h1.2 y, List.mem_cons]
      have : x.1 ≠ k := fun e => nm_irrefl _ (e ▸ h2)
      constructor
      · rintro (rfl | h | h)
        · exact .inr ⟨.inl rfl, this⟩
        · exact .inl h
        · exact .inr ⟨.inr h.1, h.2⟩
      · rintro (h | ⟨rfl | h, hk⟩)
        · exact .inr (.inl h)
        · exact .inl rfl
        · exact .inr (.inr ⟨h, hk⟩)
    · rw [if_neg h2]
      by_cases h3 : x.1 = k
      · rw [if_pos h3, List.mem_cons, List.mem_cons]
        constructor
        · rintro (h | h)
          · exact .inl h
          · exact .inr ⟨.inr h, hr h h2⟩
        · rintro (h | ⟨rfl | h, hk⟩)
          · exact .inl h
          · exact absurd h3 hk
          · exact .inr h
      · rw [if_neg h3, List.mem_cons, List.mem_cons]
        constructor
        · rintro (h | rfl | h)
          · exact .inl h
          · exact .inr ⟨.inl rfl, h3⟩
          · exact .inr ⟨.inr h, hr h h2⟩
        · rintro (h | ⟨h, hk⟩)
          · exact .inl h
          · exact .inr h
theorem Rises.put {fs : List (Nm × α)} (h : Rises fs) (k : Nm) (v : α) : Rises (putF k v fs) := by
  induction fs with
  | nil => exact List.pairwise_singleton _ _
  | cons x r ih =>
    have h1 := List.pairwise_cons.1 h
    unfold putF
    by_cases h2 : x.1 < k
    · rw [if_pos h2]
      refine List.pairwise_cons.2 ⟨fun y hy => ?_, ih h1.2⟩
      rcases (mem_putF h1.2 y).1 hy with rfl | ⟨hy, _⟩
      · exact h2
      · exact h1.1 y hy
    · rw [if_neg h2]
      by_cases h3 : x.1 = k
      · rw [if_pos h3]
        exact List.pairwise_cons.2 ⟨fun y hy => by have := h1.1 y hy; rw [h3] at this; exact this, h1.2⟩
      · rw [if_neg h3]
        have h4 : k < x.1 := ((nm_tri x.1 k).resolve_left h2).resolve_left h3
        refine List.pairwise_cons.2 ⟨fun y hy => ?_, h⟩
        rcases List.mem_cons.1 hy with rfl | hy
        · exact h4
        · exact nm_trans h4 (h1.1 y hy)
theorem Rises.del {fs : List (Nm × α)} (h : Rises fs) (k : Nm) : Rises (delF k fs) := h.sublist List.filter_sublist
theorem mem_delF {fs : List (Nm × α)} {k : Nm} (y : Nm × α) : y ∈ delF k fs ↔ (y ∈ fs ∧ y.1 ≠ k) := by simp [delF]
theorem putF_map (g : α → β) (k : Nm) (v : α) : ∀ fs : List (Nm × α), (putF k v fs).map (fun x => (x.1, g x.2)) = putF k (g v) (fs.map (fun x => (x.1, g x.2)))
  | [] => rfl
  | x :: r => by
    simp only [putF, List.map_cons]
    split
    · rw [List.map_cons, putF_map g k v r]
    · split <;> rfl
theorem delF_map (g : α → β) (k : Nm) (fs : List (Nm × α)) : (delF k fs).map (fun x => (x.1, g x.2)) = delF k (fs.map (fun x => (x.1, g x.2))) := by
  simp only [delF, List.filter_map]; rfl
theorem Rises.map (g : α → β) {fs : List (Nm × α)} (h : Rises fs) : Rises (fs.map (fun x => (x.1, g x.2))) := List.pairwise_map.2 h
theorem putF_length {k : Nm} {v : α} : ∀ {fs : List (Nm × α)}, Rises fs → (putF k v fs).length = if k ∈ fs.map (·.1) then fs.length else fs.length + 1
  | [], _ => by simp [putF]
  | x :: r, h => by
    have h1 := List.pairwise_cons.1 h
    have ih := putF_length (k := k) (v := v) h1.2
    unfold putF
    by_cases h2 : x.1 < k
    · have h3 : k ≠ x.1 := fun e => nm_irrefl _ (e ▸ h2)
      rw [if_pos h2, List.length_cons, ih]
      simp only [List.map_cons, List.mem_cons, h3, false_or, List.length_cons]
      split <;> rfl
    · rw [if_neg h2]
      by_cases h3 : x.1 = k
      · rw [if_pos h3]; simp [h3]
      · rw [if_neg h3]
        have h4 : k ∉ (x :: r).map (·.1) := by
          intro hm
          simp only [List.map_cons, List.mem_cons] at hm
          rcases hm with e | hm
          · exact h3 e.symm
          · obtain ⟨z, hz, e⟩ := List.mem_map.1 hm
            exact h2 (e ▸ h1.1 z hz)
        rw [if_neg h4]; rfl
theorem delF_length {k : Nm} : ∀ {fs : List (Nm × α)}, Rises fs → (delF k fs).length + (if k ∈ fs.map (·.1) then 1 else 0) = fs.length
  | [], _ => by simp [delF]
  | x :: r, h => by
    have h1 := List.pairwise_cons.1 h
    have ih := delF_length (k := k) h1.2
    unfold delF at ih ⊢
    rw [List.filter_cons]
    by_cases h3 : x.1 = k
    · have h4 : k ∉ r.map (·.1) := fun hm => by
        obtain ⟨z, hz, e⟩ := List.mem_map.1 hm
        have := h1.1 z hz
        rw [e, h3] at this
        exact nm_irrefl _ this
      rw [if_neg h4] at ih
      simp [h3] at ih ⊢
      exact ih
    · have h5 : (k = x.1) = False := by simp; exact fun e => h3 e.symm
      rw [if_pos (by simpa using h3)]
      simp only [List.length_cons, List.map_cons, List.mem_cons, h5, false_or]
      omega
theorem delF_none {k : Nm} {fs : List (Nm × α)} (h : k ∉ fs.map (·.1)) : delF k fs = fs := by
  unfold delF
  rw [List.filter_eq_self]
  intro x hx
  have : x.1 ≠ k := fun e => h (List.mem_map.2 ⟨x, hx, e⟩)
  simpa using this
end
/-- How a file's place reads in a map: by its block. -/
def fileElem : Value → Option (DataW Unit × List MemPlace)
  | .pointer none => some (.nil, [])
  | .pointer (some a) => if a = ⟨a.block, 0, none⟩ then some (.lit (.int .i64 (a.block : Int)), []) else none
  | _ => none
theorem fileElem_mk (F : Nat) : fileElem (.pointer (some ⟨F, 0, none⟩)) = some (.lit (.int .i64 (F : Int)), []) := by simp [fileElem]
theorem fileElem_inv {v : Value} {F : Nat} {ps : List MemPlace} (h : fileElem v = some (.lit (.int .i64 (F : Int)), ps)) : v = .pointer (some ⟨F, 0, none⟩) := by
  unfold fileElem at h
  split at h
  · simp at h
  · rename_i a
    split at h
    · rename_i ha
      simp only [Option.some.injEq, Prod.mk.injEq, DataW.lit.injEq, Lit.int.injEq, true_and] at h
      have : a.block = F := by omega
      rw [ha, this]
    · cases h
  · cases h
theorem fileElem_nil {v : Value} {ps : List MemPlace} (h : fileElem v = some (.nil, ps)) : v = .pointer none := by
  unfold fileElem at h
  split at h
  · rfl
  · split at h
    · simp at h
    · cases h
  · cases h
theorem strLaw : Keyed Tryz.prog 9 := string_keyed Tryz.underlying9
theorem keyS {s : ByteArray} (h : s.size ≤ maxLen) : keyOf Tryz.prog 9 (.string s) = some (.string s.data.toList) := WideMaps.keyOf_string_mk Tryz.underlying9 h
theorem zeroFile (w : World) : (zeroValue 116).run Tryz.prog w = .ok (.pointer none) w := by kernel_rfl
/-- A map of names to files: its block, what it holds. -/
structure MapAt (w : World) (B : Nat) (fs : List (Nm × Nat)) : Prop where
  map : ∃ D : DataW Unit, w.ownsMap Tryz.prog 9 fileElem B fs.length D ∧ (∀ k : Nm, Maps.has D (.string k) = true ↔ k ∈ fs.map (·.1)) ∧ (∀ x ∈ fs, ∀ zd, D.atKey (.string x.1) zd = .lit (.int .i64 (x.2 : Int))) ∧ Maps.size D = fs.length
theorem ownsMap_tight {H : Type} {P : Program} {k : TypeId} {R : Value → Option (DataW H × List MemPlace)} {w : World} {b n : Nat} {D : DataW H} (h : w.ownsMap P k R b n D) : w.ownsMap P k R b (Maps.size D) D := by
  obtain ⟨es, clock, hb, F, hs, rfl⟩ := h
  refine ⟨es, clock, hb, F, ?_, rfl⟩
  simp [Maps.size, length_sorted]
section
variable {w w' : World} {B : Nat} {fs : List (Nm × Nat)}
theorem MapAt.same (h : MapAt w B fs) (hb : w'.heap[B]? = w.heap[B]?) : MapAt w' B fs := by
  obtain ⟨D, ⟨es, k, h1, r⟩, r2⟩ := h.map
  exact ⟨D, ⟨es, k, hb.trans h1, r⟩, r2⟩
theorem MapAt.isMap (h : MapAt w B fs) : ∃ es k, w.heap[B]? = some (.map es k) := by
  obtain ⟨D, ⟨es, k, hb, _⟩, _⟩ := h.map
  exact ⟨es, k, hb⟩
theorem MapAt.lt (h : MapAt w B fs) : B < w.heap.size := by
  obtain ⟨es, k, hb⟩ := h.isMap
  exact (Array.getElem?_eq_some_iff.1 hb).1
theorem MapAt.later (h : MapAt w B fs) (hb : Below w.heap.size w w') : MapAt w' B fs := h.same (hb.block B h.lt)
theorem MapAt.made (w : World) : MapAt (w.alloc (.map #[] 0)) w.heap.size [] :=
  ⟨_, World.ownsMap_made (H := Unit) w Tryz.prog 9 fileElem, fun _ => by simp [Maps.has], by simp, rfl⟩
theorem MapAt.look_yes (h : MapAt w B fs) (s : ByteArray) (hs : s.size ≤ maxLen) (F : Nat) (hF : (s.data.toList, F) ∈ fs) : (Instr.lookup 103 (.map (some B)) (.string s) true).run Tryz.prog w = .ok (.tuple #[.pointer (some ⟨F, 0, none⟩), .bool true]) w ∧ (Instr.lookup 103 (.map (some B)) (.string s) false).run Tryz.prog w = .ok (.pointer (some ⟨F, 0, none⟩)) w := by
  obtain ⟨D, hD, hH, hA, _⟩ := h.map
  have hh : Maps.has D (.string s.data.toList) = true := (hH _).2 (List.mem_map.2 ⟨_, hF, rfl⟩)
  obtain ⟨v, ps, hrun, hv⟩ := hD.look_ok strLaw Tryz.underlying103 (zeroFile w) (zd := .nil) (zp := []) rfl (keyS hs)
  obtain ⟨v2, ps2, hrun2, hv2⟩ := hD.lookup strLaw Tryz.underlying103 (zeroFile w) (zd := .nil) (zp := []) rfl (keyS hs)
  rw [hA _ hF] at hv hv2
  rw [fileElem_inv hv, hh] at hrun
  rw [fileElem_inv hv2] at hrun2
  exact ⟨hrun, hrun2⟩
theorem MapAt.look_no (h : MapAt w B fs) (s : ByteArray) (hs : s.size ≤ maxLen) (hF : s.data.toList ∉ fs.map (·.1)) : (Instr.lookup 103 (.map (some B)) (.string s) true).run Tryz.prog w = .ok (.tuple #[.pointer none, .bool false]) w := by
  obtain ⟨D, hD, hH, hA, _⟩ := h.map
  have hh : Maps.has D (.string s.data.toList) = false := by
    cases e : Maps.has D (.string s.data.toList) with
    | false => rfl
    | true => exact absurd ((hH _).1 e) hF
  obtain ⟨v, ps, hrun, hv⟩ := hD.look_ok strLaw Tryz.underlying103 (zeroFile w) (zd := .nil) (zp := []) rfl (keyS hs)
  rw [atKey_of_not_has hh] at hv
  rw [fileElem_nil hv, hh] at hrun
  exact hrun
theorem MapAt.len (h : MapAt w B fs) (ty : TypeId) : (Builtin.len_ #[103] ty #[.map (some B)]).run Tryz.prog w = .ok (.int .i64 (fs.length : Int)) w := by
  obtain ⟨D, hD, hH, hA, hS⟩ := h.map
  rw [← hS]
  exact hD.len Tryz.underlying103 ty
theorem MapAt.store (h : MapAt w B fs) (hr : Rises fs) (s : ByteArray) (hs : s.size ≤ maxLen) (F : Nat) (hn : fs.length ≤ 1000) : ∃ w', (Instr.mapUpdate 103 (.map (some B)) (.string s) (.pointer (some ⟨F, 0, none⟩))).run Tryz.prog w = .ok () w' ∧ MapAt w' B (putF s.data.toList F fs) ∧ w.grownBy w' (some B) ∧ w'.heap.size = w.heap.size := by
  obtain ⟨D, hD, hH, hA, hS⟩ := h.map
  obtain ⟨w', hrun, r1, r2⟩ := hD.store strLaw Tryz.underlying103 (show fs.length < maxLen by simp only [maxLen]; omega) (keyS hs) (fileElem_mk F)
  have hmap := hD.isMap
  have hkey := strLaw.key (keyS hs)
  have hsz : w'.heap.size = w.heap.size := by
    obtain ⟨_, _, _, _, _, rfl⟩ := r2
    simp [ChangeMaps.setBlock]
  have hSZ : Maps.size (D.put (.string s.data.toList) (.lit (.int .i64 (F : Int)))) = (putF s.data.toList F fs).length := by
    rw [size_put (hD.tidy strLaw), putF_length hr, hS]
    by_cases e : s.data.toList ∈ fs.map (·.1)
    · rw [if_pos e, if_pos ((hH _).2 e)]
    · rw [if_neg e, if_neg (fun e' => e ((hH _).1 e'))]
  refine ⟨w', hrun, ⟨_, by rw [← hSZ]; exact ownsMap_tight r1, fun y => ?_, fun y hy zd => ?_, hSZ⟩, r2.grown, hsz⟩
  · by_cases e : y = s.data.toList
    · subst e
      rw [has_put_same hmap hkey]
      simp only [true_iff]
      exact List.mem_map.2 ⟨_, (mem_putF hr _).2 (.inl rfl), rfl⟩
    · rw [has_put_other (fun e' => e (by simpa using e')), hH y]
      constructor
      · intro hm
        obtain ⟨z, hz, rfl⟩ := List.mem_map.1 hm
        exact List.mem_map.2 ⟨z, (mem_putF hr _).2 (.inr ⟨hz, e⟩), rfl⟩
      · intro hm
        obtain ⟨z, hz, rfl⟩ := List.mem_map.1 hm
        rcases (mem_putF hr _).1 hz with rfl | ⟨hz, _⟩
        · exact absurd rfl e
        · exact List.mem_map.2 ⟨z, hz, rfl⟩
  · rcases (mem_putF hr _).1 hy with rfl | ⟨hy, e⟩
    · exact atKey_put_same hmap hkey _ _
    · rw [atKey_put_other (fun e' => e (by simpa using e')), hA y hy]
theorem MapAt.drop (h : MapAt w B fs) (hr : Rises fs) (s : ByteArray) (hs : s.size ≤ maxLen) (ty : TypeId) : ∃ w', (Builtin.delete_ #[103, 9] ty #[.map (some B), .string s]).run Tryz.prog w = .ok (.tuple #[]) w' ∧ MapAt w' B (delF s.data.toList fs) ∧ w.grownBy w' (some B) ∧ w'.heap.size = w.heap.size := by
  obtain ⟨D, hD, hH, hA, hS⟩ := h.map
  obtain ⟨w', hrun, r1, r2⟩ := hD.drop strLaw Tryz.underlying103 (keyS hs) ty
  have hsz : w'.heap.size = w.heap.size := by
    obtain ⟨_, _, _, _, _, rfl⟩ := r2
    simp [ChangeMaps.setBlock]
  have hSZ : Maps.size (D.del (.string s.data.toList)) = (delF s.data.toList fs).length := by
    have h1 := size_del (k := .string s.data.toList) (hD.tidy strLaw)
    have h2 := delF_length (k := s.data.toList) hr
    by_cases e : s.data.toList ∈ fs.map (·.1)
    · rw [if_pos e] at h2
      rw [if_pos ((hH _).2 e)] at h1
      omega
    · rw [if_neg e] at h2
      rw [if_neg (fun e' => e ((hH _).1 e'))] at h1
      omega
  refine ⟨w', hrun, ⟨_, by rw [← hSZ]; exact ownsMap_tight r1, fun y => ?_, fun y hy zd => ?_, hSZ⟩, r2.grown, hsz⟩
  · by_cases e : y = s.data.toList
    · subst e
      rw [has_del_same]
      simp only [Bool.false_eq_true, false_iff]
      intro hm
      obtain ⟨z, hz, e⟩ := List.mem_map.1 hm
      exact ((mem_delF z).1 hz).2 e
    · rw [has_del_other (fun e' => e (by simpa using e')), hH y]
      constructor
      · intro hm
        obtain ⟨z, hz, rfl⟩ := List.mem_map.1 hm
        exact List.mem_map.2 ⟨z, (mem_delF z).2 ⟨hz, e⟩, rfl⟩
      · intro hm
        obtain ⟨z, hz, rfl⟩ := List.mem_map.1 hm
        exact List.mem_map.2 ⟨z, ((mem_delF z).1 hz).1, rfl⟩
  · obtain ⟨hy, e⟩ := (mem_delF y).1 hy
    rw [atKey_del_other (fun e' => e (by simpa using e')), hA y hy]
/-- Its keys, sorted, are the names. -/
theorem MapAt.keys (h : MapAt w B fs) (hr : Rises fs) : ∃ D : DataW Unit, w.ownsMap Tryz.prog 9 fileElem B fs.length D ∧ Maps.size D = fs.length ∧ ∀ ss : List Nm, ss.Perm (strKeys D) → ss.mergeSort (fun x y => decide (x ≤ y)) = fs.map (·.1) := by
  obtain ⟨D, hD, hH, hA, hS⟩ := h.map
  refine ⟨D, hD, hS, fun ss hp => ?_⟩
  obtain ⟨es, rfl, hke⟩ := hD.keysOf
  obtain ⟨es', e', ht⟩ := hD.tidy strLaw
  obtain rfl : es = es' := by simpa using e'
  have hq : (fs.map (·.1)).Perm (strKeys (.map es)) := by
    refine perm_strKeys ht (fun p hp => ?_) hr.nodup (fun x => (hH x).symm)
    obtain ⟨key, hk⟩ := hke p hp
    obtain ⟨x, _, hx, _⟩ := Maps.keyOf_str Tryz.underlying9 hk
    exact ⟨x, hx⟩
  have h1 := mergeSort_of_perm (hp.trans hq.symm)
  refine h1.trans (List.mergeSort_of_pairwise ?_)
  refine List.pairwise_map.2 (hr.imp fun {a b} hab => ?_)
  simp only [leB, decide_eq_true_eq]
  exact List.le_of_lt hab
end
end Go.Proofs.YtagncghpfdjkmaaGreatDoor
end
