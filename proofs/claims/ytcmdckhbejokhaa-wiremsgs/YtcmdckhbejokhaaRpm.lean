/- The document's answers of layer 2: PutMsg. -/
import Derived.Test.YtcmdckhbejokhaaRgt
import Derived.Test.YtcmdckhbejokhaaCpm
namespace Go.Proofs.Ytcmdckhbejokhaa
open Go.ChangeShapes Go.WideShapes Go.ChangeAt Go.RowKit

theorem refPutMsg_no (kd fr to t ix lt cm hi ro : Int) (bo : Bool) (ep : Option Addr) (en ec : Nat) (dp : Option Addr) (dm dc : Nat) (es : List EntI) (w : World) (hn : es.length = en) (hmax : en ≤ 4611686018427387904) (hE : EntsAt w ep es) (h : ¬ (MayM kd fr to t ix lt cm hi ro es ∧ FitsM es dm)) :
    Calls Try.prog 8 #[.agg #[.int .i64 kd, .int .i64 fr, .int .i64 to, .int .i64 t, .int .i64 ix, .int .i64 lt, .int .i64 cm, .int .i64 hi, .int .i64 ro, .bool bo, .slice ep en ec, .slice dp dm dc]] w fun e w' => ∃ x : Int, e = .returned (.tuple #[.slice none 0 0, .int .i64 x]) ∧ RightX kd fr to t ix lt cm hi ro es dm x ∧ Below w.heap.size w w' := by
  have bA : Below w.heap.size w (w.alloc (.cells #[.int .i64 kd, .int .i64 fr, .int .i64 to, .int .i64 t, .int .i64 ix, .int .i64 lt, .int .i64 cm, .int .i64 hi, .int .i64 ro, .bool bo, .slice ep en ec, .slice dp dm dc] 26)) := (Below.refl _ _).alloc (Nat.le_refl _) _
  obtain ⟨c0, c1, c2, c3, c4, c5, c6, c7, c8, c9, c10, c11⟩ := twelve_cells (heap_new w (.cells #[.int .i64 kd, .int .i64 fr, .int .i64 to, .int .i64 t, .int .i64 ix, .int .i64 lt, .int .i64 cm, .int .i64 hi, .int .i64 ro, .bool bo, .slice ep en ec, .slice dp dm dc] 26))
  have BA := hide bA
  have HE := hide (hE.later bA)
  have HN := hide hn
  have HH := hide h
  clear bA hE hn h
  go_enter Try.func8, Try.ntmps8
  go_wp2_with fail
  refine (rightMsg_calls kd fr to t ix lt cm hi ro bo ep en ec dp dm dc es _ (unhide HN) hmax (unhide HE)).mono ?_
  rintro e W1 ⟨x, rfl, hx, hb1⟩
  have F1 := hide ((unhide BA).trans (hb1.mono (unhide BA).size))
  have HX := hide hx
  have hx0 : ¬ x = 0 := by
    rcases hx with ⟨_, rfl⟩ | ⟨_, _, rfl⟩ | ⟨h1, h2, _⟩
    · decide
    · decide
    · exact absurd ⟨h1, h2⟩ (unhide HH)
  clear hb1 hx
  go_wp2
  go_ret2
  exact ⟨x, rfl, unhide HX, unhide F1⟩
set_option maxRecDepth 20000 in
set_option maxHeartbeats 8000000 in
theorem refPutMsg_yes (kd fr to t ix lt cm hi ro ob : Nat) (bo : Bool) (hob : ob = if bo then 1 else 0) (ep : Option Addr) (en ec : Nat) (dp : Option Addr) (dm dc : Nat) (es : List EntN) (d : List Nat) (w : World) (hM : MayM kd fr to t ix lt cm hi ro (es.map toI)) (hF : FitsM (es.map toI) dm) (hok : MsgOk kd fr to t ix lt cm hi ro es d) (hn : es.length = en) (hd : d.length = dm) (hE : EntsAt w ep (es.map toI)) (hB : BytesAt w dp d) (hz : dp = none → dc = 0) :
    Calls Try.prog 8 #[.agg #[.int .i64 (kd : Int), .int .i64 (fr : Int), .int .i64 (to : Int), .int .i64 (t : Int), .int .i64 (ix : Int), .int .i64 (lt : Int), .int .i64 (cm : Int), .int .i64 (hi : Int), .int .i64 (ro : Int), .bool bo, .slice ep en ec, .slice dp dm dc]] w fun e w' => ∃ sp n c, e = .returned (.tuple #[.slice sp n c, .int .i64 0]) ∧ Hid ((msgB kd fr to t ix lt cm hi ro ob es d).length = n) ∧ OwnB w.heap.size w' sp c (msgB kd fr to t ix lt cm hi ro ob es d) ∧ Below w.heap.size w w' := by
  have x0 := heap_new w (.cells #[.int .i64 (kd : Int), .int .i64 (fr : Int), .int .i64 (to : Int), .int .i64 (t : Int), .int .i64 (ix : Int), .int .i64 (lt : Int), .int .i64 (cm : Int), .int .i64 (hi : Int), .int .i64 (ro : Int), .bool bo, .slice ep en ec, .slice dp dm dc] 26)
  obtain ⟨c0, c1, c2, c3, c4, c5, c6, c7, c8, c9, c10, c11⟩ := twelve_cells x0
  have bA : Below w.heap.size w (w.alloc (.cells #[.int .i64 (kd : Int), .int .i64 (fr : Int), .int .i64 (to : Int), .int .i64 (t : Int), .int .i64 (ix : Int), .int .i64 (lt : Int), .int .i64 (cm : Int), .int .i64 (hi : Int), .int .i64 (ro : Int), .bool bo, .slice ep en ec, .slice dp dm dc] 26)) := (Below.refl _ _).alloc (Nat.le_refl _) _
  have hen8 : en ≤ 8 := by rw [← hn]; exact hok.hfew
  have hdm : dm ≤ 32768 := by rw [← hd]; exact hok.hd
  have BA := hide bA
  have X0 := hide x0
  have HE := hide (hE.later bA)
  have HB := hide (hB.later bA)
  have HN := hide hn
  have HD := hide hd
  have HZ := hide hz
  have HM := hide hM
  have HF := hide hF
  have HK := hide hok
  have hob1 : ob ≤ 1 := by rw [hob]; split <;> omega
  have OB := hide hob
  clear bA hE hB hn hd hz hM hF hok hob x0
  go_enter Try.func8, Try.ntmps8
  go_wp2_with fail
  refine (rightMsg_calls kd fr to t ix lt cm hi ro bo ep en ec dp dm dc (es.map toI) _ (by rw [List.length_map]; exact unhide HN) (by omega) (unhide HE)).mono ?_
  rintro e W1 ⟨x, rfl, hx, hb1⟩
  obtain rfl : x = 0 := by
    rcases hx with ⟨h1, _⟩ | ⟨_, h2, _⟩ | ⟨_, _, h3⟩
    · exact absurd (unhide HM) h1
    · exact absurd (unhide HF) h2
    · exact h3
  have F1 := hide ((unhide BA).trans (hb1.mono (unhide BA).size))
  have X1 := hide ((hb1.block _ (Array.getElem?_eq_some_iff.1 (unhide X0)).1).trans (unhide X0))
  have E1 := hide ((unhide HE).later hb1)
  have D1 := hide ((unhide HB).later hb1)
  have hlt := hide (show w.heap.size < W1.heap.size from (Array.getElem?_eq_some_iff.1 (unhide X1)).1)
  clear hx hb1 c0 c1 c2 c3 c4 c5 c6 c7 c8 c9 c10 c11 HE HB
  obtain ⟨c0, c1, c2, c3, c4, c5, c6, c7, c8, c9, c10, c11⟩ := twelve_cells (unhide X1)
  have hk := (unhide HK).hkd
  have hfr := (unhide HK).hfr
  have hto := (unhide HK).hto
  have wk : IntKind.u8.wrap (kd : Int) = (kd : Int) := by rw [IntKind.wrap_u8]; omega
  have wf : IntKind.u8.wrap (fr : Int) = (fr : Int) := by rw [IntKind.wrap_u8]; omega
  have wt : IntKind.u8.wrap (to : Int) = (to : Int) := by rw [IntKind.wrap_u8]; omega
  cases bo
  · obtain rfl : ob = 0 := unhide OB
    have x2 := heap_new W1 (.cells #[.int .u8 (kd : Int), .int .u8 (fr : Int), .int .u8 (to : Int), .int .u8 0] 5)
    have B2 := hide (show Below W1.heap.size W1 (W1.alloc (.cells #[.int .u8 (kd : Int), .int .u8 (fr : Int), .int .u8 (to : Int), .int .u8 0] 5)) from (Below.refl _ _).alloc (Nat.le_refl _) _)
    have O2 := hide (show OwnB W1.heap.size (W1.alloc (.cells #[.int .u8 (kd : Int), .int .u8 (fr : Int), .int .u8 (to : Int), .int .u8 0] 5)) (some ⟨W1.heap.size, 0, none⟩) 4 (headB kd fr to 0) from OwnB.ofBlock (l := [kd, fr, to, 0]) x2 (Nat.le_refl _) (by intro c hc; simp only [List.mem_cons, List.not_mem_nil, or_false] at hc; omega) (by simp [maxLen]))
    have X2 := hide (((unhide B2).block _ (unhide hlt)).trans (unhide X1))
    have N2 := hide (show (headB kd fr to 0).length = 4 from rfl)
    have L2 := hide (show (headB kd fr to 0).length ≤ 4 from Nat.le_refl 4)
    clear x2
    go_wp2_with fail
    generalize W1.alloc (.cells #[.int .u8 (kd : Int), .int .u8 (fr : Int), .int .u8 (to : Int), .int .u8 0] 5) = W2 at *
    clear c0 c1 c2 c3 c4 c5 c6 c7 c8 c9 c10 c11
    obtain ⟨_, _, _, f3, f4, f5, f6, f7, f8, _, f10, f11⟩ := twelve_cells (unhide X2)
    have key := hide (show ∀ W' : World, Below W1.heap.size W2 W' → W'.cell? ⟨w.heap.size, 3, none⟩ = some (.int .i64 (t : Int)) ∧ W'.cell? ⟨w.heap.size, 4, none⟩ = some (.int .i64 (ix : Int)) ∧ W'.cell? ⟨w.heap.size, 5, none⟩ = some (.int .i64 (lt : Int)) from
      fun W' h => ⟨(h.cell (p := ⟨w.heap.size, 3, none⟩) (unhide hlt)).trans f3, (h.cell (p := ⟨w.heap.size, 4, none⟩) (unhide hlt)).trans f4, (h.cell (p := ⟨w.heap.size, 5, none⟩) (unhide hlt)).trans f5⟩)
    have hW := hide (show W1.heap.size ≤ W2.heap.size from (unhide B2).size)
    have L3 := hide (show (headB kd fr to 0 ++ numB t).length ≤ 4 + 6 by have := numB_short t (unhide HK).ht; have := unhide L2; simp only [List.length_append] at *; omega)
    have L4 := hide (show (headB kd fr to 0 ++ numB t ++ numB ix).length ≤ 4 + 12 by have := numB_short ix (unhide HK).hix; have := unhide L3; rw [List.length_append]; omega)
    have L5 := hide (show (headB kd fr to 0 ++ numB t ++ numB ix ++ numB lt).length ≤ 4 + 18 by have := numB_short lt (unhide HK).hlt; have := unhide L4; rw [List.length_append]; omega)
    go_region_held3 (fun w' => w'.cell? ⟨w.heap.size, 3, none⟩ = some (.int .i64 (t : Int)) ∧ w'.cell? ⟨w.heap.size, 4, none⟩ = some (.int .i64 (ix : Int)) ∧ w'.cell? ⟨w.heap.size, 5, none⟩ = some (.int .i64 (lt : Int)))
      (first
        | exact unhide key _ ((Below.refl _ _).drew.trans ((hb3.trans hb4).trans hb5))
        | exact unhide key _ ((Below.refl _ _).drew.trans (hb3.trans hb4))
        | exact unhide key _ ((Below.refl _ _).drew.trans hb3)
        | exact ⟨f3, f4, f5⟩)
      (first
        | (go_at_call_of 20 (Value.slice (some ⟨W1.heap.size, 0, none⟩) 4 4); refine (refAdd_calls W1.heap.size (some ⟨W1.heap.size, 0, none⟩) 4 4 (headB kd fr to 0) t _ (unhide N2) (by exact (unhide O2).drew) (by have := unhide L2; omega) (unhide HK).ht (by exact unhide hW)).mono ?_; rintro e W3 ⟨sp3, n3, k3, rfl, hn3, ho3, hg3⟩; have hb3 := hg3.below (unhide O2).drew (by exact unhide hW))
        | (go_at_call_of 20 (Value.slice sp3 n3 k3); refine (refAdd_calls W1.heap.size sp3 n3 k3 (headB kd fr to 0 ++ numB t) ix _ (unhide hn3) ho3 (by have := unhide L3; omega) (unhide HK).hix (by exact Nat.le_trans (unhide hW) hb3.size)).mono ?_; rintro e W4 ⟨sp4, n4, k4, rfl, hn4, ho4, hg4⟩; have hb4 := hg4.below ho3 (by exact Nat.le_trans (unhide hW) hb3.size))
        | (go_at_call_of 20 (Value.slice sp4 n4 k4); refine (refAdd_calls W1.heap.size sp4 n4 k4 (headB kd fr to 0 ++ numB t ++ numB ix) lt _ (unhide hn4) ho4 (by have := unhide L4; omega) (unhide HK).hlt (by exact Nat.le_trans (unhide hW) (hb3.trans hb4).size)).mono ?_; rintro e W5 ⟨sp5, n5, k5, rfl, hn5, ho5, hg5⟩; have hb5 := hg5.below ho4 (by exact Nat.le_trans (unhide hW) (hb3.trans hb4).size)))
    have B2' := hide (show Below W1.heap.size W1 W5 from (unhide B2).trans ((Below.refl _ _).drew.trans ((hb3.trans hb4).trans hb5)))
    have O2' := hide ho5
    have N2' := hide (unhide hn5)
    clear hb3 hb4 hb5 ho3 ho4 ho5 hg3 hg4 hg5 hn3 hn4 hn5 key hW f3 f4 f5 f6 f7 f8 f10 f11 L3 L4 B2 O2 N2 L2
    have B2 := B2'
    have O2 := O2'
    have N2 := N2'
    have L2 := L5
    clear B2' O2' N2' L5
    have X2 := hide (((unhide B2).block _ (unhide hlt)).trans (unhide X1))
    obtain ⟨_, _, _, f3, f4, f5, f6, f7, f8, _, f10, f11⟩ := twelve_cells (unhide X2)
    go_wp2_with fail
    have key := hide (show ∀ W' : World, Below W1.heap.size W5 W' → W'.cell? ⟨w.heap.size, 6, none⟩ = some (.int .i64 (cm : Int)) ∧ W'.cell? ⟨w.heap.size, 7, none⟩ = some (.int .i64 (hi : Int)) ∧ W'.cell? ⟨w.heap.size, 8, none⟩ = some (.int .i64 (ro : Int)) from
      fun W' h => ⟨(h.cell (p := ⟨w.heap.size, 6, none⟩) (unhide hlt)).trans f6, (h.cell (p := ⟨w.heap.size, 7, none⟩) (unhide hlt)).trans f7, (h.cell (p := ⟨w.heap.size, 8, none⟩) (unhide hlt)).trans f8⟩)
    have hW := hide (show W1.heap.size ≤ W5.heap.size from (unhide B2).size)
    have L3 := hide (show (headB kd fr to 0 ++ numB t ++ numB ix ++ numB lt ++ numB cm).length ≤ 22 + 6 by have := numB_short cm (unhide HK).hcm; have := unhide L2; simp only [List.length_append] at *; omega)
    have L4 := hide (show (headB kd fr to 0 ++ numB t ++ numB ix ++ numB lt ++ numB cm ++ numB hi).length ≤ 22 + 12 by have := numB_short hi (unhide HK).hhi; have := unhide L3; rw [List.length_append]; omega)
    have L5 := hide (show (headB kd fr to 0 ++ numB t ++ numB ix ++ numB lt ++ numB cm ++ numB hi ++ numB ro).length ≤ 22 + 18 by have := numB_short ro (unhide HK).hro; have := unhide L4; rw [List.length_append]; omega)
    go_region_held3 (fun w' => w'.cell? ⟨w.heap.size, 6, none⟩ = some (.int .i64 (cm : Int)) ∧ w'.cell? ⟨w.heap.size, 7, none⟩ = some (.int .i64 (hi : Int)) ∧ w'.cell? ⟨w.heap.size, 8, none⟩ = some (.int .i64 (ro : Int)))
      (first
        | exact unhide key _ ((Below.refl _ _).drew.trans ((hb6.trans hb7).trans hb8))
        | exact unhide key _ ((Below.refl _ _).drew.trans (hb6.trans hb7))
        | exact unhide key _ ((Below.refl _ _).drew.trans hb6)
        | exact ⟨f6, f7, f8⟩)
      (first
        | (go_at_call_of 20 (Value.slice sp5 n5 k5); refine (refAdd_calls W1.heap.size sp5 n5 k5 (headB kd fr to 0 ++ numB t ++ numB ix ++ numB lt) cm _ (unhide N2) (by exact (unhide O2).drew) (by have := unhide L2; omega) (unhide HK).hcm (by exact unhide hW)).mono ?_; rintro e W6 ⟨sp6, n6, k6, rfl, hn6, ho6, hg6⟩; have hb6 := hg6.below (unhide O2).drew (by exact unhide hW))
        | (go_at_call_of 20 (Value.slice sp6 n6 k6); refine (refAdd_calls W1.heap.size sp6 n6 k6 (headB kd fr to 0 ++ numB t ++ numB ix ++ numB lt ++ numB cm) hi _ (unhide hn6) ho6 (by have := unhide L3; omega) (unhide HK).hhi (by exact Nat.le_trans (unhide hW) hb6.size)).mono ?_; rintro e W7 ⟨sp7, n7, k7, rfl, hn7, ho7, hg7⟩; have hb7 := hg7.below ho6 (by exact Nat.le_trans (unhide hW) hb6.size))
        | (go_at_call_of 20 (Value.slice sp7 n7 k7); refine (refAdd_calls W1.heap.size sp7 n7 k7 (headB kd fr to 0 ++ numB t ++ numB ix ++ numB lt ++ numB cm ++ numB hi) ro _ (unhide hn7) ho7 (by have := unhide L4; omega) (unhide HK).hro (by exact Nat.le_trans (unhide hW) (hb6.trans hb7).size)).mono ?_; rintro e W8 ⟨sp8, n8, k8, rfl, hn8, ho8, hg8⟩; have hb8 := hg8.below ho7 (by exact Nat.le_trans (unhide hW) (hb6.trans hb7).size)))
    have B2' := hide (show Below W1.heap.size W1 W8 from (unhide B2).trans ((Below.refl _ _).drew.trans ((hb6.trans hb7).trans hb8)))
    have O2' := hide ho8
    have N2' := hide (unhide hn8)
    clear hb6 hb7 hb8 ho6 ho7 ho8 hg6 hg7 hg8 hn6 hn7 hn8 key hW f3 f4 f5 f6 f7 f8 f10 f11 L3 L4 B2 O2 N2 L2
    have B2 := B2'
    have O2 := O2'
    have N2 := N2'
    have L2 := L5
    clear B2' O2' N2' L5
    have X2 := hide (((unhide B2).block _ (unhide hlt)).trans (unhide X1))
    obtain ⟨_, _, _, f3, f4, f5, f6, f7, f8, _, f10, f11⟩ := twelve_cells (unhide X2)
    go_wp2_with fail
    refine (refAdd_calls W1.heap.size sp8 n8 k8 (headB kd fr to 0 ++ numB t ++ numB ix ++ numB lt ++ numB cm ++ numB hi ++ numB ro) en _ (unhide N2) (unhide O2) (by have := unhide L2; omega) (by omega) (by exact (unhide B2).size)).mono ?_
    rintro e W9 ⟨sp9, n9, k9, rfl, hn9, ho9, hg9⟩
    have B9 := hide ((unhide B2).trans (hg9.below (unhide O2) (unhide B2).size))
    have O9 := hide ho9
    have L9 := hide (show (headB kd fr to 0 ++ numB t ++ numB ix ++ numB lt ++ numB cm ++ numB hi ++ numB ro ++ numB en).length ≤ 50 by have := numB_six en (by omega); have := unhide L2; rw [List.length_append]; omega)
    clear hg9 ho9 f3 f4 f5 f6 f7 f8 f10 f11 X2
    go_wp2_with fail
    go_loopw [6, 7] (fun v i wr => ∃ (q m : Nat) (sp : Option Addr) (c : Nat) (Lz : List Nat), v = .slice sp m c ∧ i = .int .i64 (q : Int) ∧ q ≤ en ∧ Hid (Lz.length = m) ∧ Hid (OwnB W1.heap.size wr sp c Lz) ∧ Hid (Lz = headB kd fr to 0 ++ numB t ++ numB ix ++ numB lt ++ numB cm ++ numB hi ++ numB ro ++ numB en ++ entsB (es.take q)) ∧ Hid (Below W1.heap.size W1 wr)) (fun _ i _ => en - (intOf i).toNat)
    case atStart => exact ⟨0, n9, sp9, k9, headB kd fr to 0 ++ numB t ++ numB ix ++ numB lt ++ numB cm ++ numB hi ++ numB ro ++ numB en, rfl, rfl, by omega, hn9, unhide O9, (show headB kd fr to 0 ++ numB t ++ numB ix ++ numB lt ++ numB cm ++ numB hi ++ numB ro ++ numB en = headB kd fr to 0 ++ numB t ++ numB ix ++ numB lt ++ numB cm ++ numB hi ++ numB ro ++ numB en ++ entsB (es.take 0) by simp [entsB]), unhide B9⟩
    case round =>
      obtain ⟨q, m, sp, c, Lz, rfl, rfl, hq, hZn, hZo, hZT, hZB⟩ := hrel
      have hLz := hide (show Lz.length ≤ 50 + 2100 * 8 by
        rw [unhide hZT, List.length_append]
        have h1 := entsB_len (es.take q) (fun e he => (unhide HK).hes e (List.mem_of_mem_take he))
        have h2 : (es.take q).length ≤ 8 := by rw [List.length_take]; have := unhide HN; omega
        have := unhide L9
        omega)
      obtain ⟨_, _, _, f3, f4, f5, f6, f7, f8, _, f10, f11⟩ := twelve_cells (((unhide hZB).block _ (unhide hlt)).trans (unhide X1))
      by_cases hqn : q < en
      · have hqe : q < (es.map toI).length := by have := unhide HN; rw [List.length_map]; omega
        have hqe' : q < es.length := by simpa using hqe
        obtain ⟨b, off, p, pc, rfl, p0, p1, p2, p3, p4, p5⟩ := (unhide E1).cell q hqe
        have hOK := (unhide HK).hes (es[q]'hqe') (List.getElem_mem _)
        have hstep := entsB_take es q hqe'
        rw [toI_get] at p0 p1 p2 p3 p4
        generalize es[q]'hqe' = ee at *
        obtain ⟨k', t', i', d'⟩ := ee
        simp only [toI] at p0 p1 p2 p3 p4
        have HO := hide hOK
        have hst := hide hstep
        have PB := hide p4
        have P5 := hide p5
        replace p0 := cell_later (unhide hZB) p0
        replace p1 := cell_later (unhide hZB) p1
        replace p2 := cell_later (unhide hZB) p2
        replace p3 := cell_later (unhide hZB) p3
        have hq0 : (0 : Int) ≤ (q : Int) := by omega
        have hq1 : (q : Int) < (en : Int) := by omega
        clear hOK hstep p4 p5
        go_wp2_with fail
        refine (refPutEntry_yes k' t' i' p d'.length pc d' _ (entOk_mayI (unhide HO)) rfl ((unhide PB).later (unhide hZB)) (unhide P5) (unhide HO).2.2.2.2).mono ?_
        rintro e w5 ⟨spx, nx, kx, rfl, hnx, hbx, hb5⟩
        have BX := hide hbx
        have B5 := hide ((unhide hZB).trans (hb5.mono (unhide hZB).size))
        have OX := hide ((unhide hZo).later hb5)
        have T5 := hide (show Lz ++ entryB k' t' i' d' = headB kd fr to 0 ++ numB t ++ numB ix ++ numB lt ++ numB cm ++ numB hi ++ numB ro ++ numB en ++ entsB (es.take (q + 1)) by rw [unhide hst, unhide hZT]; simp only [List.append_assoc]; rfl)
        have hel := hide (show (entryB k' t' i' d').length ≤ 2100 by
          have h := unhide HO
          have := numB_six t' (by have := h.2.1; omega)
          have := numB_six i' (by have := h.2.2.1; omega)
          have := numB_six d'.length (by have := h.2.2.2.2; omega)
          have := h.2.2.2.2
          simp only [entryB, List.length_cons, List.length_append]
          omega)
        clear hbx hb5 f3 f4 f5 f6 f7 f8 f10 f11 p0 p1 p2 p3
        go_wp2_with (at_builtin; refine unhide ?_)
        refine hide ?_
        refine wpList_append8L rfl (.tmp 69) (.tmp 70) rfl W1.heap.size sp m c Lz rfl (unhide hZn) (unhide OX) spx nx kx rfl (entryB k' t' i' d') (unhide hnx) (unhide BX) ?_ ?_ (by exact (unhide B5).size) ?_
        · intro hnone
          obtain ⟨bb, oo, hs, _⟩ := (unhide BX).cell 0 (by simp [entryB])
          rw [hnone] at hs
          cases hs
        · have := unhide hLz; have := unhide hel; have := unhide hnx; omega
        intro sp6 n6 k6 W6 hn6 ho6 hg6 hl6
        have B6 := hide ((unhide B5).grown hg6 (unhide B5).size (fun g hg => ((unhide OX).blk_lt g hg).1))
        have O6 := hide ho6
        clear hg6 ho6 hl6
        go_wp2
        exact ⟨⟨q + 1, n6, sp6, k6, Lz ++ entryB k' t' i' d', rfl, by go_num, by omega, hn6, unhide O6, unhide T5, unhide B6⟩, by simp [intOf]; omega⟩
      · have hT := hide (show Lz = headB kd fr to 0 ++ numsB [t, ix, lt, cm, hi, ro] ++ numB es.length ++ entsB es by
          have h := unhide hZT
          rw [List.take_of_length_le (by have := unhide HN; omega), ← unhide HN] at h
          rw [h]
          simp [numsB, List.append_assoc])
        go_wp2_with fail
        refine (refAdd_calls W1.heap.size sp m c Lz dm _ (unhide hZn) (unhide hZo) (by have := unhide hLz; omega) (by omega) (by exact (unhide hZB).size)).mono ?_
        rintro e w5 ⟨sp5', n5', c5', rfl, hn5', ho5', hg5'⟩
        have B5 := hide ((unhide hZB).trans (hg5'.below (unhide hZo) (unhide hZB).size))
        have O5 := hide ho5'
        have D5 := hide ((unhide D1).later (unhide B5))
        obtain ⟨_, _, _, e3, e4, e5, e6, e7, e8, _, e10, e11⟩ := twelve_cells (((unhide B5).block _ (unhide hlt)).trans (unhide X1))
        clear hg5' ho5' f3 f4 f5 f6 f7 f8 f10 f11
        go_wp2_with (at_builtin; refine unhide ?_)
        refine hide ?_
        refine wpList_append8L rfl (.tmp 77) (.tmp 79) rfl W1.heap.size sp5' n5' c5' (Lz ++ numB dm) rfl (unhide hn5') (unhide O5) dp dm dc rfl d (unhide HD) (unhide D5) (unhide HZ) ?_ (by exact (unhide B5).size) ?_
        · have := unhide hLz; have := numB_six dm (by omega); rw [List.length_append]; omega
        intro sp6 n6 k6 W6 hn6 ho6 hg6 hl6
        have hfin : Lz ++ numB dm ++ d = msgB kd fr to t ix lt cm hi ro 0 es d := by rw [unhide hT, ← unhide HD]; simp [msgB, List.append_assoc]
        rw [hfin] at hn6 ho6
        have F6 := hide ((unhide F1).trans (((unhide B5).grown hg6 (unhide B5).size (fun g hg => ((unhide O5).blk_lt g hg).1)).mono (unhide F1).size))
        have O6 := hide (ho6.mono (unhide F1).size)
        clear hg6 ho6 hl6 hfin e3 e4 e5 e6 e7 e8 e10 e11
        go_wp2
        go_ret2
        exact ⟨sp6, n6, k6, rfl, hn6, unhide O6, unhide F6⟩
  · obtain rfl : ob = 1 := unhide OB
    have x2 := heap_new W1 (.cells #[.int .u8 (kd : Int), .int .u8 (fr : Int), .int .u8 (to : Int), .int .u8 1] 5)
    have B2 := hide (show Below W1.heap.size W1 (W1.alloc (.cells #[.int .u8 (kd : Int), .int .u8 (fr : Int), .int .u8 (to : Int), .int .u8 1] 5)) from (Below.refl _ _).alloc (Nat.le_refl _) _)
    have O2 := hide (show OwnB W1.heap.size (W1.alloc (.cells #[.int .u8 (kd : Int), .int .u8 (fr : Int), .int .u8 (to : Int), .int .u8 1] 5)) (some ⟨W1.heap.size, 0, none⟩) 4 (headB kd fr to 1) from OwnB.ofBlock (l := [kd, fr, to, 1]) x2 (Nat.le_refl _) (by intro c hc; simp only [List.mem_cons, List.not_mem_nil, or_false] at hc; omega) (by simp [maxLen]))
    have X2 := hide (((unhide B2).block _ (unhide hlt)).trans (unhide X1))
    have N2 := hide (show (headB kd fr to 1).length = 4 from rfl)
    have L2 := hide (show (headB kd fr to 1).length ≤ 4 from Nat.le_refl 4)
    clear x2
    go_wp2_with fail
    generalize W1.alloc (.cells #[.int .u8 (kd : Int), .int .u8 (fr : Int), .int .u8 (to : Int), .int .u8 1] 5) = W2 at *
    clear c0 c1 c2 c3 c4 c5 c6 c7 c8 c9 c10 c11
    obtain ⟨_, _, _, f3, f4, f5, f6, f7, f8, _, f10, f11⟩ := twelve_cells (unhide X2)
    have key := hide (show ∀ W' : World, Below W1.heap.size W2 W' → W'.cell? ⟨w.heap.size, 3, none⟩ = some (.int .i64 (t : Int)) ∧ W'.cell? ⟨w.heap.size, 4, none⟩ = some (.int .i64 (ix : Int)) ∧ W'.cell? ⟨w.heap.size, 5, none⟩ = some (.int .i64 (lt : Int)) from
      fun W' h => ⟨(h.cell (p := ⟨w.heap.size, 3, none⟩) (unhide hlt)).trans f3, (h.cell (p := ⟨w.heap.size, 4, none⟩) (unhide hlt)).trans f4, (h.cell (p := ⟨w.heap.size, 5, none⟩) (unhide hlt)).trans f5⟩)
    have hW := hide (show W1.heap.size ≤ W2.heap.size from (unhide B2).size)
    have L3 := hide (show (headB kd fr to 1 ++ numB t).length ≤ 4 + 6 by have := numB_short t (unhide HK).ht; have := unhide L2; simp only [List.length_append] at *; omega)
    have L4 := hide (show (headB kd fr to 1 ++ numB t ++ numB ix).length ≤ 4 + 12 by have := numB_short ix (unhide HK).hix; have := unhide L3; rw [List.length_append]; omega)
    have L5 := hide (show (headB kd fr to 1 ++ numB t ++ numB ix ++ numB lt).length ≤ 4 + 18 by have := numB_short lt (unhide HK).hlt; have := unhide L4; rw [List.length_append]; omega)
    go_region_held3 (fun w' => w'.cell? ⟨w.heap.size, 3, none⟩ = some (.int .i64 (t : Int)) ∧ w'.cell? ⟨w.heap.size, 4, none⟩ = some (.int .i64 (ix : Int)) ∧ w'.cell? ⟨w.heap.size, 5, none⟩ = some (.int .i64 (lt : Int)))
      (first
        | exact unhide key _ ((Below.refl _ _).drew.trans ((hb3.trans hb4).trans hb5))
        | exact unhide key _ ((Below.refl _ _).drew.trans (hb3.trans hb4))
        | exact unhide key _ ((Below.refl _ _).drew.trans hb3)
        | exact ⟨f3, f4, f5⟩)
      (first
        | (go_at_call_of 20 (Value.slice (some ⟨W1.heap.size, 0, none⟩) 4 4); refine (refAdd_calls W1.heap.size (some ⟨W1.heap.size, 0, none⟩) 4 4 (headB kd fr to 1) t _ (unhide N2) (by exact (unhide O2).drew) (by have := unhide L2; omega) (unhide HK).ht (by exact unhide hW)).mono ?_; rintro e W3 ⟨sp3, n3, k3, rfl, hn3, ho3, hg3⟩; have hb3 := hg3.below (unhide O2).drew (by exact unhide hW))
        | (go_at_call_of 20 (Value.slice sp3 n3 k3); refine (refAdd_calls W1.heap.size sp3 n3 k3 (headB kd fr to 1 ++ numB t) ix _ (unhide hn3) ho3 (by have := unhide L3; omega) (unhide HK).hix (by exact Nat.le_trans (unhide hW) hb3.size)).mono ?_; rintro e W4 ⟨sp4, n4, k4, rfl, hn4, ho4, hg4⟩; have hb4 := hg4.below ho3 (by exact Nat.le_trans (unhide hW) hb3.size))
        | (go_at_call_of 20 (Value.slice sp4 n4 k4); refine (refAdd_calls W1.heap.size sp4 n4 k4 (headB kd fr to 1 ++ numB t ++ numB ix) lt _ (unhide hn4) ho4 (by have := unhide L4; omega) (unhide HK).hlt (by exact Nat.le_trans (unhide hW) (hb3.trans hb4).size)).mono ?_; rintro e W5 ⟨sp5, n5, k5, rfl, hn5, ho5, hg5⟩; have hb5 := hg5.below ho4 (by exact Nat.le_trans (unhide hW) (hb3.trans hb4).size)))
    have B2' := hide (show Below W1.heap.size W1 W5 from (unhide B2).trans ((Below.refl _ _).drew.trans ((hb3.trans hb4).trans hb5)))
    have O2' := hide ho5
    have N2' := hide (unhide hn5)
    clear hb3 hb4 hb5 ho3 ho4 ho5 hg3 hg4 hg5 hn3 hn4 hn5 key hW f3 f4 f5 f6 f7 f8 f10 f11 L3 L4 B2 O2 N2 L2
    have B2 := B2'
    have O2 := O2'
    have N2 := N2'
    have L2 := L5
    clear B2' O2' N2' L5
    have X2 := hide (((unhide B2).block _ (unhide hlt)).trans (unhide X1))
    obtain ⟨_, _, _, f3, f4, f5, f6, f7, f8, _, f10, f11⟩ := twelve_cells (unhide X2)
    go_wp2_with fail
    have key := hide (show ∀ W' : World, Below W1.heap.size W5 W' → W'.cell? ⟨w.heap.size, 6, none⟩ = some (.int .i64 (cm : Int)) ∧ W'.cell? ⟨w.heap.size, 7, none⟩ = some (.int .i64 (hi : Int)) ∧ W'.cell? ⟨w.heap.size, 8, none⟩ = some (.int .i64 (ro : Int)) from
      fun W' h => ⟨(h.cell (p := ⟨w.heap.size, 6, none⟩) (unhide hlt)).trans f6, (h.cell (p := ⟨w.heap.size, 7, none⟩) (unhide hlt)).trans f7, (h.cell (p := ⟨w.heap.size, 8, none⟩) (unhide hlt)).trans f8⟩)
    have hW := hide (show W1.heap.size ≤ W5.heap.size from (unhide B2).size)
    have L3 := hide (show (headB kd fr to 1 ++ numB t ++ numB ix ++ numB lt ++ numB cm).length ≤ 22 + 6 by have := numB_short cm (unhide HK).hcm; have := unhide L2; simp only [List.length_append] at *; omega)
    have L4 := hide (show (headB kd fr to 1 ++ numB t ++ numB ix ++ numB lt ++ numB cm ++ numB hi).length ≤ 22 + 12 by have := numB_short hi (unhide HK).hhi; have := unhide L3; rw [List.length_append]; omega)
    have L5 := hide (show (headB kd fr to 1 ++ numB t ++ numB ix ++ numB lt ++ numB cm ++ numB hi ++ numB ro).length ≤ 22 + 18 by have := numB_short ro (unhide HK).hro; have := unhide L4; rw [List.length_append]; omega)
    go_region_held3 (fun w' => w'.cell? ⟨w.heap.size, 6, none⟩ = some (.int .i64 (cm : Int)) ∧ w'.cell? ⟨w.heap.size, 7, none⟩ = some (.int .i64 (hi : Int)) ∧ w'.cell? ⟨w.heap.size, 8, none⟩ = some (.int .i64 (ro : Int)))
      (first
        | exact unhide key _ ((Below.refl _ _).drew.trans ((hb6.trans hb7).trans hb8))
        | exact unhide key _ ((Below.refl _ _).drew.trans (hb6.trans hb7))
        | exact unhide key _ ((Below.refl _ _).drew.trans hb6)
        | exact ⟨f6, f7, f8⟩)
      (first
        | (go_at_call_of 20 (Value.slice sp5 n5 k5); refine (refAdd_calls W1.heap.size sp5 n5 k5 (headB kd fr to 1 ++ numB t ++ numB ix ++ numB lt) cm _ (unhide N2) (by exact (unhide O2).drew) (by have := unhide L2; omega) (unhide HK).hcm (by exact unhide hW)).mono ?_; rintro e W6 ⟨sp6, n6, k6, rfl, hn6, ho6, hg6⟩; have hb6 := hg6.below (unhide O2).drew (by exact unhide hW))
        | (go_at_call_of 20 (Value.slice sp6 n6 k6); refine (refAdd_calls W1.heap.size sp6 n6 k6 (headB kd fr to 1 ++ numB t ++ numB ix ++ numB lt ++ numB cm) hi _ (unhide hn6) ho6 (by have := unhide L3; omega) (unhide HK).hhi (by exact Nat.le_trans (unhide hW) hb6.size)).mono ?_; rintro e W7 ⟨sp7, n7, k7, rfl, hn7, ho7, hg7⟩; have hb7 := hg7.below ho6 (by exact Nat.le_trans (unhide hW) hb6.size))
        | (go_at_call_of 20 (Value.slice sp7 n7 k7); refine (refAdd_calls W1.heap.size sp7 n7 k7 (headB kd fr to 1 ++ numB t ++ numB ix ++ numB lt ++ numB cm ++ numB hi) ro _ (unhide hn7) ho7 (by have := unhide L4; omega) (unhide HK).hro (by exact Nat.le_trans (unhide hW) (hb6.trans hb7).size)).mono ?_; rintro e W8 ⟨sp8, n8, k8, rfl, hn8, ho8, hg8⟩; have hb8 := hg8.below ho7 (by exact Nat.le_trans (unhide hW) (hb6.trans hb7).size)))
    have B2' := hide (show Below W1.heap.size W1 W8 from (unhide B2).trans ((Below.refl _ _).drew.trans ((hb6.trans hb7).trans hb8)))
    have O2' := hide ho8
    have N2' := hide (unhide hn8)
    clear hb6 hb7 hb8 ho6 ho7 ho8 hg6 hg7 hg8 hn6 hn7 hn8 key hW f3 f4 f5 f6 f7 f8 f10 f11 L3 L4 B2 O2 N2 L2
    have B2 := B2'
    have O2 := O2'
    have N2 := N2'
    have L2 := L5
    clear B2' O2' N2' L5
    have X2 := hide (((unhide B2).block _ (unhide hlt)).trans (unhide X1))
    obtain ⟨_, _, _, f3, f4, f5, f6, f7, f8, _, f10, f11⟩ := twelve_cells (unhide X2)
    go_wp2_with fail
    refine (refAdd_calls W1.heap.size sp8 n8 k8 (headB kd fr to 1 ++ numB t ++ numB ix ++ numB lt ++ numB cm ++ numB hi ++ numB ro) en _ (unhide N2) (unhide O2) (by have := unhide L2; omega) (by omega) (by exact (unhide B2).size)).mono ?_
    rintro e W9 ⟨sp9, n9, k9, rfl, hn9, ho9, hg9⟩
    have B9 := hide ((unhide B2).trans (hg9.below (unhide O2) (unhide B2).size))
    have O9 := hide ho9
    have L9 := hide (show (headB kd fr to 1 ++ numB t ++ numB ix ++ numB lt ++ numB cm ++ numB hi ++ numB ro ++ numB en).length ≤ 50 by have := numB_six en (by omega); have := unhide L2; rw [List.length_append]; omega)
    clear hg9 ho9 f3 f4 f5 f6 f7 f8 f10 f11 X2
    go_wp2_with fail
    go_loopw [6, 7] (fun v i wr => ∃ (q m : Nat) (sp : Option Addr) (c : Nat) (Lz : List Nat), v = .slice sp m c ∧ i = .int .i64 (q : Int) ∧ q ≤ en ∧ Hid (Lz.length = m) ∧ Hid (OwnB W1.heap.size wr sp c Lz) ∧ Hid (Lz = headB kd fr to 1 ++ numB t ++ numB ix ++ numB lt ++ numB cm ++ numB hi ++ numB ro ++ numB en ++ entsB (es.take q)) ∧ Hid (Below W1.heap.size W1 wr)) (fun _ i _ => en - (intOf i).toNat)
    case atStart => exact ⟨0, n9, sp9, k9, headB kd fr to 1 ++ numB t ++ numB ix ++ numB lt ++ numB cm ++ numB hi ++ numB ro ++ numB en, rfl, rfl, by omega, hn9, unhide O9, (show headB kd fr to 1 ++ numB t ++ numB ix ++ numB lt ++ numB cm ++ numB hi ++ numB ro ++ numB en = headB kd fr to 1 ++ numB t ++ numB ix ++ numB lt ++ numB cm ++ numB hi ++ numB ro ++ numB en ++ entsB (es.take 0) by simp [entsB]), unhide B9⟩
    case round =>
      obtain ⟨q, m, sp, c, Lz, rfl, rfl, hq, hZn, hZo, hZT, hZB⟩ := hrel
      have hLz := hide (show Lz.length ≤ 50 + 2100 * 8 by
        rw [unhide hZT, List.length_append]
        have h1 := entsB_len (es.take q) (fun e he => (unhide HK).hes e (List.mem_of_mem_take he))
        have h2 : (es.take q).length ≤ 8 := by rw [List.length_take]; have := unhide HN; omega
        have := unhide L9
        omega)
      obtain ⟨_, _, _, f3, f4, f5, f6, f7, f8, _, f10, f11⟩ := twelve_cells (((unhide hZB).block _ (unhide hlt)).trans (unhide X1))
      by_cases hqn : q < en
      · have hqe : q < (es.map toI).length := by have := unhide HN; rw [List.length_map]; omega
        have hqe' : q < es.length := by simpa using hqe
        obtain ⟨b, off, p, pc, rfl, p0, p1, p2, p3, p4, p5⟩ := (unhide E1).cell q hqe
        have hOK := (unhide HK).hes (es[q]'hqe') (List.getElem_mem _)
        have hstep := entsB_take es q hqe'
        rw [toI_get] at p0 p1 p2 p3 p4
        generalize es[q]'hqe' = ee at *
        obtain ⟨k', t', i', d'⟩ := ee
        simp only [toI] at p0 p1 p2 p3 p4
        have HO := hide hOK
        have hst := hide hstep
        have PB := hide p4
        have P5 := hide p5
        replace p0 := cell_later (unhide hZB) p0
        replace p1 := cell_later (unhide hZB) p1
        replace p2 := cell_later (unhide hZB) p2
        replace p3 := cell_later (unhide hZB) p3
        have hq0 : (0 : Int) ≤ (q : Int) := by omega
        have hq1 : (q : Int) < (en : Int) := by omega
        clear hOK hstep p4 p5
        go_wp2_with fail
        refine (refPutEntry_yes k' t' i' p d'.length pc d' _ (entOk_mayI (unhide HO)) rfl ((unhide PB).later (unhide hZB)) (unhide P5) (unhide HO).2.2.2.2).mono ?_
        rintro e w5 ⟨spx, nx, kx, rfl, hnx, hbx, hb5⟩
        have BX := hide hbx
        have B5 := hide ((unhide hZB).trans (hb5.mono (unhide hZB).size))
        have OX := hide ((unhide hZo).later hb5)
        have T5 := hide (show Lz ++ entryB k' t' i' d' = headB kd fr to 1 ++ numB t ++ numB ix ++ numB lt ++ numB cm ++ numB hi ++ numB ro ++ numB en ++ entsB (es.take (q + 1)) by rw [unhide hst, unhide hZT]; simp only [List.append_assoc]; rfl)
        have hel := hide (show (entryB k' t' i' d').length ≤ 2100 by
          have h := unhide HO
          have := numB_six t' (by have := h.2.1; omega)
          have := numB_six i' (by have := h.2.2.1; omega)
          have := numB_six d'.length (by have := h.2.2.2.2; omega)
          have := h.2.2.2.2
          simp only [entryB, List.length_cons, List.length_append]
          omega)
        clear hbx hb5 f3 f4 f5 f6 f7 f8 f10 f11 p0 p1 p2 p3
        go_wp2_with (at_builtin; refine unhide ?_)
        refine hide ?_
        refine wpList_append8L rfl (.tmp 69) (.tmp 70) rfl W1.heap.size sp m c Lz rfl (unhide hZn) (unhide OX) spx nx kx rfl (entryB k' t' i' d') (unhide hnx) (unhide BX) ?_ ?_ (by exact (unhide B5).size) ?_
        · intro hnone
          obtain ⟨bb, oo, hs, _⟩ := (unhide BX).cell 0 (by simp [entryB])
          rw [hnone] at hs
          cases hs
        · have := unhide hLz; have := unhide hel; have := unhide hnx; omega
        intro sp6 n6 k6 W6 hn6 ho6 hg6 hl6
        have B6 := hide ((unhide B5).grown hg6 (unhide B5).size (fun g hg => ((unhide OX).blk_lt g hg).1))
        have O6 := hide ho6
        clear hg6 ho6 hl6
        go_wp2
        exact ⟨⟨q + 1, n6, sp6, k6, Lz ++ entryB k' t' i' d', rfl, by go_num, by omega, hn6, unhide O6, unhide T5, unhide B6⟩, by simp [intOf]; omega⟩
      · have hT := hide (show Lz = headB kd fr to 1 ++ numsB [t, ix, lt, cm, hi, ro] ++ numB es.length ++ entsB es by
          have h := unhide hZT
          rw [List.take_of_length_le (by have := unhide HN; omega), ← unhide HN] at h
          rw [h]
          simp [numsB, List.append_assoc])
        go_wp2_with fail
        refine (refAdd_calls W1.heap.size sp m c Lz dm _ (unhide hZn) (unhide hZo) (by have := unhide hLz; omega) (by omega) (by exact (unhide hZB).size)).mono ?_
        rintro e w5 ⟨sp5', n5', c5', rfl, hn5', ho5', hg5'⟩
        have B5 := hide ((unhide hZB).trans (hg5'.below (unhide hZo) (unhide hZB).size))
        have O5 := hide ho5'
        have D5 := hide ((unhide D1).later (unhide B5))
        obtain ⟨_, _, _, e3, e4, e5, e6, e7, e8, _, e10, e11⟩ := twelve_cells (((unhide B5).block _ (unhide hlt)).trans (unhide X1))
        clear hg5' ho5' f3 f4 f5 f6 f7 f8 f10 f11
        go_wp2_with (at_builtin; refine unhide ?_)
        refine hide ?_
        refine wpList_append8L rfl (.tmp 77) (.tmp 79) rfl W1.heap.size sp5' n5' c5' (Lz ++ numB dm) rfl (unhide hn5') (unhide O5) dp dm dc rfl d (unhide HD) (unhide D5) (unhide HZ) ?_ (by exact (unhide B5).size) ?_
        · have := unhide hLz; have := numB_six dm (by omega); rw [List.length_append]; omega
        intro sp6 n6 k6 W6 hn6 ho6 hg6 hl6
        have hfin : Lz ++ numB dm ++ d = msgB kd fr to t ix lt cm hi ro 1 es d := by rw [unhide hT, ← unhide HD]; simp [msgB, List.append_assoc]
        rw [hfin] at hn6 ho6
        have F6 := hide ((unhide F1).trans (((unhide B5).grown hg6 (unhide B5).size (fun g hg => ((unhide O5).blk_lt g hg).1)).mono (unhide F1).size))
        have O6 := hide (ho6.mono (unhide F1).size)
        clear hg6 ho6 hl6 hfin e3 e4 e5 e6 e7 e8 e10 e11
        go_wp2
        go_ret2
        exact ⟨sp6, n6, k6, rfl, hn6, unhide O6, unhide F6⟩
end Go.Proofs.Ytcmdckhbejokhaa
