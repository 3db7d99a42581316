/- The contract of tollgateref02.CopyMsg. -/
import Derived.Test.YtcmdckhbejokhaaCpy
import Derived.Test.YtcmdckhbejokhaaPutm
namespace Go.Proofs.Ytcmdckhbejokhaa
open Go.ChangeShapes Go.WideShapes Go.ChangeAt Go.RowKit

theorem nilCapB {base : Nat} {w : World} {sp : Option Addr} {c : Nat} {l : List Nat} (h : OwnB base w sp c l) : sp = none → c = 0 := by
  intro e
  subst e
  rcases h.owns.2 with ⟨hv, _⟩ | ⟨g, cap, cur, hv, _⟩
  · simp only [Value.slice.injEq] at hv; exact hv.2.2
  · cases hv
theorem OwnEI.far {base : Nat} {w w' : World} {sp : Option Addr} {c j : Nat} {es : List EntI} (h : OwnEI base w sp c es) (hg : w.grownBy w' (some j)) (hj : j < base) : OwnEI base w' sp c es := by
  obtain ⟨hs, h1, h2, h3⟩ := h.ex
  exact ⟨hs, h1, ownsRow_far h2 hg hj, fun i hi => (h3 i hi).far hg hj⟩
set_option maxRecDepth 20000 in
set_option maxHeartbeats 4000000 in
theorem copyMsg_calls (kd fr to t ix lt cm hi ro : Int) (bo : Bool) (ep : Option Addr) (en ec : Nat) (dp : Option Addr) (dm dc : Nat) (es : List EntI) (d : List Nat) (w : World) (hn : es.length = en) (hlen : en * 48 ≤ 140737488355328) (hd : ∀ e ∈ es, e.2.2.2.length ≤ 140737488355328) (hE : EntsAt w ep es) (hm : d.length = dm) (hdl : dm ≤ 140737488355328) (hB : BytesAt w dp d) (hz : dp = none → dc = 0) :
    Calls Try.prog 6 #[.agg #[.int .i64 kd, .int .i64 fr, .int .i64 to, .int .i64 t, .int .i64 ix, .int .i64 lt, .int .i64 cm, .int .i64 hi, .int .i64 ro, .bool bo, .slice ep en ec, .slice dp dm dc]] w fun e w' => ∃ ep' ec' dp' dc', e = .returned (.agg #[.int .i64 kd, .int .i64 fr, .int .i64 to, .int .i64 t, .int .i64 ix, .int .i64 lt, .int .i64 cm, .int .i64 hi, .int .i64 ro, .bool bo, .slice ep' en ec', .slice dp' dm dc']) ∧ EntsAt w' ep' es ∧ BytesAt w' dp' d ∧ (dp' = none → dc' = 0) ∧ Below w.heap.size w w' := by
  have HE := hide hE
  have HB := hide hB
  have HN := hide hn
  have HM := hide hm
  have HD := hide hd
  have HZ := hide hz
  clear hE hB hn hm hd hz
  obtain ⟨c0, c1, c2, c3, c4, c5, c6, c7, c8, c9, c10, c11⟩ := twelve_cells (heap_new w (.cells #[.int .i64 kd, .int .i64 fr, .int .i64 to, .int .i64 t, .int .i64 ix, .int .i64 lt, .int .i64 cm, .int .i64 hi, .int .i64 ro, .bool bo, .slice ep en ec, .slice dp dm dc] 26))
  go_enter Try.func6, Try.ntmps6
  go_wp2_with (at_builtin; refine unhide ?_)
  refine hide ?_
  have O4 := hide (OwnB.empty (((w.alloc (.cells #[.int .i64 kd, .int .i64 fr, .int .i64 to, .int .i64 t, .int .i64 ix, .int .i64 lt, .int .i64 cm, .int .i64 hi, .int .i64 ro, .bool bo, .slice ep en ec, .slice dp dm dc] 26)).alloc (.cells #[.int .i64 0, .int .i64 0, .int .i64 0, .int .i64 0, .int .i64 0, .int .i64 0, .int .i64 0, .int .i64 0, .int .i64 0, .bool false, .slice none 0 0, .slice none 0 0] 26)).alloc (.cells #[.int .i64 kd, .int .i64 fr, .int .i64 to, .int .i64 t, .int .i64 ix, .int .i64 lt, .int .i64 cm, .int .i64 hi, .int .i64 ro, .bool bo, .slice ep en ec, .slice dp dm dc] 26)) w.heap.size (by simp only [size_alloc]; omega))
  simp only [size_alloc] at O4
  have B4 := hide (show Below w.heap.size w ((((w.alloc (.cells #[.int .i64 kd, .int .i64 fr, .int .i64 to, .int .i64 t, .int .i64 ix, .int .i64 lt, .int .i64 cm, .int .i64 hi, .int .i64 ro, .bool bo, .slice ep en ec, .slice dp dm dc] 26)).alloc (.cells #[.int .i64 0, .int .i64 0, .int .i64 0, .int .i64 0, .int .i64 0, .int .i64 0, .int .i64 0, .int .i64 0, .int .i64 0, .bool false, .slice none 0 0, .slice none 0 0] 26)).alloc (.cells #[.int .i64 kd, .int .i64 fr, .int .i64 to, .int .i64 t, .int .i64 ix, .int .i64 lt, .int .i64 cm, .int .i64 hi, .int .i64 ro, .bool bo, .slice ep en ec, .slice dp dm dc] 26)).alloc (.cells #[] 5)) from ((((Below.refl _ _).alloc (Nat.le_refl _) _).alloc (by simp only [size_alloc]; omega) _).alloc (by simp only [size_alloc]; omega) _).alloc (by simp only [size_alloc]; omega) _)
  have X0 := hide (show ((((w.alloc (.cells #[.int .i64 kd, .int .i64 fr, .int .i64 to, .int .i64 t, .int .i64 ix, .int .i64 lt, .int .i64 cm, .int .i64 hi, .int .i64 ro, .bool bo, .slice ep en ec, .slice dp dm dc] 26)).alloc (.cells #[.int .i64 0, .int .i64 0, .int .i64 0, .int .i64 0, .int .i64 0, .int .i64 0, .int .i64 0, .int .i64 0, .int .i64 0, .bool false, .slice none 0 0, .slice none 0 0] 26)).alloc (.cells #[.int .i64 kd, .int .i64 fr, .int .i64 to, .int .i64 t, .int .i64 ix, .int .i64 lt, .int .i64 cm, .int .i64 hi, .int .i64 ro, .bool bo, .slice ep en ec, .slice dp dm dc] 26)).alloc (.cells #[] 5)).heap[w.heap.size]? = some (.cells #[.int .i64 kd, .int .i64 fr, .int .i64 to, .int .i64 t, .int .i64 ix, .int .i64 lt, .int .i64 cm, .int .i64 hi, .int .i64 ro, .bool bo, .slice ep en ec, .slice dp dm dc] 26) from heap_old _ (heap_old _ (heap_old _ (heap_new _ _))))
  have X1 := hide (show ((((w.alloc (.cells #[.int .i64 kd, .int .i64 fr, .int .i64 to, .int .i64 t, .int .i64 ix, .int .i64 lt, .int .i64 cm, .int .i64 hi, .int .i64 ro, .bool bo, .slice ep en ec, .slice dp dm dc] 26)).alloc (.cells #[.int .i64 0, .int .i64 0, .int .i64 0, .int .i64 0, .int .i64 0, .int .i64 0, .int .i64 0, .int .i64 0, .int .i64 0, .bool false, .slice none 0 0, .slice none 0 0] 26)).alloc (.cells #[.int .i64 kd, .int .i64 fr, .int .i64 to, .int .i64 t, .int .i64 ix, .int .i64 lt, .int .i64 cm, .int .i64 hi, .int .i64 ro, .bool bo, .slice ep en ec, .slice dp dm dc] 26)).alloc (.cells #[] 5)).heap[w.heap.size + 1]? = some (.cells #[.int .i64 0, .int .i64 0, .int .i64 0, .int .i64 0, .int .i64 0, .int .i64 0, .int .i64 0, .int .i64 0, .int .i64 0, .bool false, .slice none 0 0, .slice none 0 0] 26) from heap_old _ (heap_old _ (by rw [← size_alloc w (.cells #[.int .i64 kd, .int .i64 fr, .int .i64 to, .int .i64 t, .int .i64 ix, .int .i64 lt, .int .i64 cm, .int .i64 hi, .int .i64 ro, .bool bo, .slice ep en ec, .slice dp dm dc] 26)]; exact heap_new _ _)))
  have X2 := hide (show ((((w.alloc (.cells #[.int .i64 kd, .int .i64 fr, .int .i64 to, .int .i64 t, .int .i64 ix, .int .i64 lt, .int .i64 cm, .int .i64 hi, .int .i64 ro, .bool bo, .slice ep en ec, .slice dp dm dc] 26)).alloc (.cells #[.int .i64 0, .int .i64 0, .int .i64 0, .int .i64 0, .int .i64 0, .int .i64 0, .int .i64 0, .int .i64 0, .int .i64 0, .bool false, .slice none 0 0, .slice none 0 0] 26)).alloc (.cells #[.int .i64 kd, .int .i64 fr, .int .i64 to, .int .i64 t, .int .i64 ix, .int .i64 lt, .int .i64 cm, .int .i64 hi, .int .i64 ro, .bool bo, .slice ep en ec, .slice dp dm dc] 26)).alloc (.cells #[] 5)).heap[w.heap.size + 1 + 1]? = some (.cells #[.int .i64 kd, .int .i64 fr, .int .i64 to, .int .i64 t, .int .i64 ix, .int .i64 lt, .int .i64 cm, .int .i64 hi, .int .i64 ro, .bool bo, .slice ep en ec, .slice dp dm dc] 26) from heap_old _ (by rw [← size_alloc w (.cells #[.int .i64 kd, .int .i64 fr, .int .i64 to, .int .i64 t, .int .i64 ix, .int .i64 lt, .int .i64 cm, .int .i64 hi, .int .i64 ro, .bool bo, .slice ep en ec, .slice dp dm dc] 26), ← size_alloc (w.alloc (.cells #[.int .i64 kd, .int .i64 fr, .int .i64 to, .int .i64 t, .int .i64 ix, .int .i64 lt, .int .i64 cm, .int .i64 hi, .int .i64 ro, .bool bo, .slice ep en ec, .slice dp dm dc] 26)) (.cells #[.int .i64 0, .int .i64 0, .int .i64 0, .int .i64 0, .int .i64 0, .int .i64 0, .int .i64 0, .int .i64 0, .int .i64 0, .bool false, .slice none 0 0, .slice none 0 0] 26)]; exact heap_new _ _))
  have HS := hide (show ((((w.alloc (.cells #[.int .i64 kd, .int .i64 fr, .int .i64 to, .int .i64 t, .int .i64 ix, .int .i64 lt, .int .i64 cm, .int .i64 hi, .int .i64 ro, .bool bo, .slice ep en ec, .slice dp dm dc] 26)).alloc (.cells #[.int .i64 0, .int .i64 0, .int .i64 0, .int .i64 0, .int .i64 0, .int .i64 0, .int .i64 0, .int .i64 0, .int .i64 0, .bool false, .slice none 0 0, .slice none 0 0] 26)).alloc (.cells #[.int .i64 kd, .int .i64 fr, .int .i64 to, .int .i64 t, .int .i64 ix, .int .i64 lt, .int .i64 cm, .int .i64 hi, .int .i64 ro, .bool bo, .slice ep en ec, .slice dp dm dc] 26)).alloc (.cells #[] 5)).heap.size = w.heap.size + 4 by simp only [size_alloc])
  generalize (((w.alloc (.cells #[.int .i64 kd, .int .i64 fr, .int .i64 to, .int .i64 t, .int .i64 ix, .int .i64 lt, .int .i64 cm, .int .i64 hi, .int .i64 ro, .bool bo, .slice ep en ec, .slice dp dm dc] 26)).alloc (.cells #[.int .i64 0, .int .i64 0, .int .i64 0, .int .i64 0, .int .i64 0, .int .i64 0, .int .i64 0, .int .i64 0, .int .i64 0, .bool false, .slice none 0 0, .slice none 0 0] 26)).alloc (.cells #[.int .i64 kd, .int .i64 fr, .int .i64 to, .int .i64 t, .int .i64 ix, .int .i64 lt, .int .i64 cm, .int .i64 hi, .int .i64 ro, .bool bo, .slice ep en ec, .slice dp dm dc] 26)).alloc (.cells #[] 5) = W4 at *
  clear c0 c1 c2 c3 c4 c5 c6 c7 c8 c9 c10 c11
  refine wpList_append8L rfl (.tmp 5) (.tmp 7) rfl w.heap.size (some ⟨w.heap.size + 1 + 1 + 1, 0, none⟩) 0 0 [] rfl rfl (unhide O4) dp dm dc rfl d (unhide HM) ((unhide HB).later (unhide B4)) (unhide HZ) (by simp only [List.length_nil]; omega) (by rw [unhide HS]; omega) ?_
  intro sp5 n5 k5 W5 hn5 ho5 hg5 _
  rw [List.nil_append] at hn5 ho5
  obtain rfl : dm = n5 := (unhide HM).symm.trans (unhide hn5)
  have hg5' : W4.grownBy W5 (some (w.heap.size + 1 + 1 + 1)) := hg5
  have keep : ∀ j o, W4.heap[j]? = some o → j ≠ w.heap.size + 1 + 1 + 1 → W5.heap[j]? = some o := fun j o h hne => (hg5'.block j (Array.getElem?_eq_some_iff.1 h).1 (fun e => hne (Option.some.inj e))).trans h
  have Y0 := hide (keep _ _ (unhide X0) (by omega))
  have Y1 := hide (keep _ _ (unhide X1) (by omega))
  have Y2 := hide (keep _ _ (unhide X2) (by omega))
  have B5 := hide (show Below w.heap.size w W5 from (unhide B4).grown hg5' (unhide B4).size (fun g hg => by have := Option.some.inj hg; omega))
  have S5 := hide (show w.heap.size + 4 ≤ W5.heap.size by have := hg5'.size; rw [unhide HS] at this; exact this)
  have O5 := hide ho5
  clear hn5 ho5 hg5 hg5' keep O4 B4 X0 X1 X2 HS
  have f11 : W5.frozen? ⟨w.heap.size + 1 + 1, 11, none⟩ = false := by simp [World.frozen?, unhide Y2]
  have v11 := box_cell (unhide Y2) 11 _ rfl
  have g6 := grown_set W5 (w.heap.size + 1 + 1) 11 (.slice sp5 dm k5)
  have y2 : (W5.setCell ⟨w.heap.size + 1 + 1, 11, none⟩ (.slice sp5 dm k5)).heap[w.heap.size + 1 + 1]? = some (.cells #[.int .i64 kd, .int .i64 fr, .int .i64 to, .int .i64 t, .int .i64 ix, .int .i64 lt, .int .i64 cm, .int .i64 hi, .int .i64 ro, .bool bo, .slice ep en ec, .slice sp5 dm k5] 26) := by
    simpa using heap_setCell_same W5 (w.heap.size + 1 + 1) 11 _ 26 (.slice sp5 dm k5) (unhide Y2)
  have Z2 := hide y2
  have Z0 := hide (grown_block g6 (unhide Y0) (by omega))
  have Z1 := hide (grown_block g6 (unhide Y1) (by omega))
  have B6 := hide ((unhide B5).grown g6 (unhide B5).size (fun g hg => by have := Option.some.inj hg; omega))
  have O6 := hide ((unhide O5).grownNe g6 (fun g hg e => by
    rw [← Option.some.inj e] at hg
    exact (unhide O5).ne_block (unhide Y2) (by decide) hg))
  have S6 := hide (show w.heap.size + 4 ≤ (W5.setCell ⟨w.heap.size + 1 + 1, 11, none⟩ (.slice sp5 dm k5)).heap.size from Nat.le_trans (unhide S5) g6.size)
  obtain ⟨a0, a1, a2, a3, a4, a5, a6, a7, a8, a9, a10, a11⟩ := twelve_cells (unhide Z0)
  clear g6 y2
  go_wp2_with fail
  generalize W5.setCell ⟨w.heap.size + 1 + 1, 11, none⟩ (.slice sp5 dm k5) = W6 at *
  clear a0 a1 a2 a3 a4 a5 a6 a7 a8 a9 a10 a11 v11 f11 Y0 Y1 Y2 O5 B5 S5
  refine (copyEntries_calls ep en ec es _ (unhide HN) hlen (unhide HD) ((unhide HE).later (unhide B6))).mono ?_
  rintro e W7 ⟨ep7, k7, rfl, ho7, hb7⟩
  have U0 := hide ((hb7.block _ (Array.getElem?_eq_some_iff.1 (unhide Z0)).1).trans (unhide Z0))
  have U1 := hide ((hb7.block _ (Array.getElem?_eq_some_iff.1 (unhide Z1)).1).trans (unhide Z1))
  have U2 := hide ((hb7.block _ (Array.getElem?_eq_some_iff.1 (unhide Z2)).1).trans (unhide Z2))
  have B7 := hide ((unhide B6).trans (hb7.mono (unhide B6).size))
  have O7 := hide ((unhide O6).later hb7)
  have E7 := hide ho7
  have f10 := box_free (unhide U2) 10
  have v10 := box_cell (unhide U2) 10 _ rfl
  have g8 := grown_set W7 (w.heap.size + 1 + 1) 10 (.slice ep7 en k7)
  have y2 : (W7.setCell ⟨w.heap.size + 1 + 1, 10, none⟩ (.slice ep7 en k7)).heap[w.heap.size + 1 + 1]? = some (.cells #[.int .i64 kd, .int .i64 fr, .int .i64 to, .int .i64 t, .int .i64 ix, .int .i64 lt, .int .i64 cm, .int .i64 hi, .int .i64 ro, .bool bo, .slice ep7 en k7, .slice sp5 dm k5] 26) := by
    simpa using heap_setCell_same W7 (w.heap.size + 1 + 1) 10 _ 26 (.slice ep7 en k7) (unhide U2)
  have V2 := hide y2
  have V1 := hide (grown_block g8 (unhide U1) (by omega))
  have hS := unhide S6
  have B8 := hide ((unhide B7).grown g8 (unhide B7).size (fun g hg => by have := Option.some.inj hg; omega))
  have O8 := hide ((unhide O7).grownNe g8 (fun g hg e => by
    rw [← Option.some.inj e] at hg
    exact (unhide O7).ne_block (unhide U2) (by decide) hg))
  have E8 := hide ((unhide E7).far g8 (by omega))
  obtain ⟨d0, d1, d2, d3, d4, d5, d6, d7, d8, d9, d10, d11⟩ := twelve_cells (unhide V2)
  obtain ⟨g0, g1, g2, g3, g4, g5, g6, g7, g8', g9, g10, g11⟩ := twelve_cells (unhide V1)
  have fz := box_free (unhide V1)
  clear hb7 ho7 y2 g8 U0 U1 U2 B7 O7 E7 B6 O6 Z0 Z1 Z2
  go_wp2_with fail
  generalize W7.setCell ⟨w.heap.size + 1 + 1, 10, none⟩ (.slice ep7 en k7) = W8 at *
  obtain ⟨q6, s7⟩ := twelve_laid (x0 := .int .i64 kd) (x1 := .int .i64 fr) (x2 := .int .i64 to) (x3 := .int .i64 t) (x4 := .int .i64 ix) (x5 := .int .i64 lt) (x6 := .int .i64 cm) (x7 := .int .i64 hi) (x8 := .int .i64 ro) (x9 := .bool bo) (x10 := .slice ep7 en k7) (x11 := .slice sp5 dm k5) (unhide V1)
  obtain ⟨z0, z1, z2, z3, z4, z5, z6, z7, z8, z9, z10, z11⟩ := twelve_cells q6
  refine bodyPost_ret (v := .agg #[.int .i64 kd, .int .i64 fr, .int .i64 to, .int .i64 t, .int .i64 ix, .int .i64 lt, .int .i64 cm, .int .i64 hi, .int .i64 ro, .bool bo, .slice ep7 en k7, .slice sp5 dm k5]) (by simp [results, Try.results6, go_sem, z0, z1, z2, z3, z4, z5, z6, z7, z8, z9, z10, z11]) rfl ?_
  have O9 := (unhide O8).grownNe s7 (fun g hg e => by
    rw [← Option.some.inj e] at hg
    exact (unhide O8).ne_block (unhide V1) (by decide) hg)
  exact ⟨ep7, k7, sp5, k5, rfl, ((unhide E8).far s7 (by omega)).ents, O9.bytes, nilCapB O9, (unhide B8).grown s7 (unhide B8).size (fun g hg => by have := Option.some.inj hg; omega)⟩
end Go.Proofs.Ytcmdckhbejokhaa
