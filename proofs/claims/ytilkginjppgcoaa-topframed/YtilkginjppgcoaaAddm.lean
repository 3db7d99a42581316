/- The contracts of wire.addMsg and PutMsg where a message may be put. -/
import Derived.Test.YtilkginjppgcoaaPutm
namespace Go.Proofs.Ytilkginjppgcoaa
open Go.ChangeShapes Go.WideShapes Go.ChangeAt Go.RowKit

/-- The bytes ahead of the numbers. -/
def headB (kd fr to ob : Nat) : List Nat := [kd, fr, to, ob]
def numsB (l : List Nat) : List Nat := l.flatMap numB
def entsB (es : List EntN) : List Nat := es.flatMap fun e => entB' e.1 e.2.1 e.2.2.1 e.2.2.2
/-- A message's bytes. -/
def msgB (kd fr to t ix lt cm hi ro : Nat) (ob : Nat) (es : List EntN) (d : List Nat) : List Nat := headB kd fr to ob ++ numsB [t, ix, lt, cm, hi, ro] ++ numB es.length ++ entsB es ++ (numB d.length ++ d)
theorem numsB_len (l : List Nat) (h : ∀ n ∈ l, n ≤ 1099511627776) : (numsB l).length ≤ 6 * l.length := by
  induction l with
  | nil => simp [numsB]
  | cons x r ih =>
    have h1 := numB_six x (h x (by simp))
    have h2 := ih (fun n hn => h n (List.mem_cons_of_mem _ hn))
    simp only [numsB, List.flatMap_cons, List.length_append, List.length_cons] at h2 ⊢
    omega
theorem entB'_len {k t i : Nat} {d : List Nat} (h : EntOk k t i d) : (entB' k t i d).length ≤ 2100 := by
  have h1 := numB_six t h.2.1.2
  have h2 := numB_six i h.2.2.1.2
  have h3 := numB_six d.length (by have := h.2.2.2.2; omega)
  have := h.2.2.2.2
  simp only [entB', List.length_cons, List.length_append]
  omega
theorem entsB_len (es : List EntN) (h : ∀ e ∈ es, EntOk e.1 e.2.1 e.2.2.1 e.2.2.2) : (entsB es).length ≤ 2100 * es.length := by
  induction es with
  | nil => simp [entsB]
  | cons x r ih =>
    have h1 := entB'_len (h x (by simp))
    have h2 := ih (fun n hn => h n (List.mem_cons_of_mem _ hn))
    simp only [entsB, List.flatMap_cons, List.length_append, List.length_cons] at h2 ⊢
    omega
theorem entsB_take (es : List EntN) (j : Nat) (h : j < es.length) : entsB (es.take (j + 1)) = entsB (es.take j) ++ entB' es[j].1 es[j].2.1 es[j].2.2.1 es[j].2.2.2 := by
  unfold entsB
  rw [List.take_succ_eq_append_getElem h, List.flatMap_append, List.flatMap_cons, List.flatMap_nil, List.append_nil]
set_option maxRecDepth 20000 in
set_option maxHeartbeats 8000000 in
theorem addMsg_calls (kd fr to t ix lt cm hi ro : Nat) (ob : Nat) (bo : Bool) (hob : ob = if bo then 1 else 0) (ep : Option Addr) (en ec : Nat) (dp : Option Addr) (dm dc : Nat) (es : List EntN) (d : List Nat) (w : World) (hok : MsgOk kd fr to t ix lt cm hi ro es d) (hn : es.length = en) (hd : d.length = dm) (hE : EntsAt w ep (es.map toI)) (hB : BytesAt w dp d) (hz : dp = none → dc = 0) :
    Calls Try.prog 14 #[.slice none 0 0, .agg #[.int .i64 (kd : Int), .int .i64 (fr : Int), .int .i64 (to : Int), .int .i64 (t : Int), .int .i64 (ix : Int), .int .i64 (lt : Int), .int .i64 (cm : Int), .int .i64 (hi : Int), .int .i64 (ro : Int), .bool bo, .slice ep en ec, .slice dp dm dc]] w fun e w' => ∃ sp n c, e = .returned (.slice sp n c) ∧ Hid ((msgB kd fr to t ix lt cm hi ro ob es d).length = n) ∧ OwnB w.heap.size w' sp c (msgB kd fr to t ix lt cm hi ro ob es d) ∧ Below w.heap.size w w' := by
  have x0 := heap_new w (.cells #[.int .i64 (kd : Int), .int .i64 (fr : Int), .int .i64 (to : Int), .int .i64 (t : Int), .int .i64 (ix : Int), .int .i64 (lt : Int), .int .i64 (cm : Int), .int .i64 (hi : Int), .int .i64 (ro : Int), .bool bo, .slice ep en ec, .slice dp dm dc] 26)
  obtain ⟨c0, c1, c2, c3, c4, c5, c6, c7, c8, c9, c10, c11⟩ := twelve_cells x0
  have X0 := hide x0
  have bA : Below w.heap.size w (w.alloc (.cells #[.int .i64 (kd : Int), .int .i64 (fr : Int), .int .i64 (to : Int), .int .i64 (t : Int), .int .i64 (ix : Int), .int .i64 (lt : Int), .int .i64 (cm : Int), .int .i64 (hi : Int), .int .i64 (ro : Int), .bool bo, .slice ep en ec, .slice dp dm dc] 26)) := (Below.refl _ _).alloc (Nat.le_refl _) _
  have BA := hide bA
  have HE := hide (hE.later bA)
  have HB := hide (hB.later bA)
  have HN := hide hn
  have HD := hide hd
  have HZ := hide hz
  have HK := hide hok
  have hsz := hide (size_alloc w (.cells #[.int .i64 (kd : Int), .int .i64 (fr : Int), .int .i64 (to : Int), .int .i64 (t : Int), .int .i64 (ix : Int), .int .i64 (lt : Int), .int .i64 (cm : Int), .int .i64 (hi : Int), .int .i64 (ro : Int), .bool bo, .slice ep en ec, .slice dp dm dc] 26))
  have h8 : en ≤ 8 := by have := hok.hfew; omega
  have hd8 : dm ≤ 32768 := by have := hok.hd; omega
  have hk7 : kd ≤ 7 := hok.hkd.2
  have hf9 : fr ≤ 9 := hok.hfr.2
  have ht9 : to ≤ 9 := hok.hto.2
  clear x0 hE hB hn hd hz hok bA
  go_enter Try.func14, Try.ntmps14
  go_wp2_with fail
  generalize hW : w.alloc (.cells #[.int .i64 (kd : Int), .int .i64 (fr : Int), .int .i64 (to : Int), .int .i64 (t : Int), .int .i64 (ix : Int), .int .i64 (lt : Int), .int .i64 (cm : Int), .int .i64 (hi : Int), .int .i64 (ro : Int), .bool bo, .slice ep en ec, .slice dp dm dc] 26) = W at *
  have HW := hide hW
  clear hW
  have hob1 : ob ≤ 1 := by rw [hob]; split <;> omega
  have OB := hide hob
  have hlit := hide (bytesAt_block (l := [kd, fr, to, ob]) (show (W.alloc (.cells #[.int .u8 (kd : Int), .int .u8 (fr : Int), .int .u8 (to : Int), .int .u8 (ob : Int)] 5)).drew.heap[W.heap.size]? = some (.cells ([kd, fr, to, ob].map byteV).toArray 5 (0, 0)) from heap_new W _) (by intro c hc; simp only [List.mem_cons, List.not_mem_nil, or_false] at hc; omega))
  have bL := hide (show Below W.heap.size W (W.alloc (.cells #[.int .u8 (kd : Int), .int .u8 (fr : Int), .int .u8 (to : Int), .int .u8 (ob : Int)] 5)).drew from ((Below.refl _ _).alloc (Nat.le_refl _) _).drew)
  clear hob
  have wk : IntKind.u8.wrap (kd : Int) = (kd : Int) := by rw [IntKind.wrap_u8]; omega
  have wf : IntKind.u8.wrap (fr : Int) = (fr : Int) := by rw [IntKind.wrap_u8]; omega
  have wt : IntKind.u8.wrap (to : Int) = (to : Int) := by rw [IntKind.wrap_u8]; omega
  have hlt := hide (show w.heap.size < W.heap.size by rw [unhide hsz]; omega)
  go_region_held3 (fun w' => w'.cell? ⟨w.heap.size, 0, none⟩ = some (.int .i64 (kd : Int)) ∧ w'.cell? ⟨w.heap.size, 1, none⟩ = some (.int .i64 (fr : Int)) ∧ w'.cell? ⟨w.heap.size, 2, none⟩ = some (.int .i64 (to : Int)) ∧ w'.cell? ⟨w.heap.size, 9, none⟩ = some (.bool bo))
    (first
      | exact ⟨c0, c1, c2, c9⟩
      | exact ⟨(hb1.cell (p := ⟨w.heap.size, 0, none⟩) (unhide hlt)).trans c0, (hb1.cell (p := ⟨w.heap.size, 1, none⟩) (unhide hlt)).trans c1, (hb1.cell (p := ⟨w.heap.size, 2, none⟩) (unhide hlt)).trans c2, (hb1.cell (p := ⟨w.heap.size, 9, none⟩) (unhide hlt)).trans c9⟩
      | exact ⟨((unhide bL).cell (p := ⟨w.heap.size, 0, none⟩) (unhide hlt)).trans c0, ((unhide bL).cell (p := ⟨w.heap.size, 1, none⟩) (unhide hlt)).trans c1, ((unhide bL).cell (p := ⟨w.heap.size, 2, none⟩) (unhide hlt)).trans c2, ((unhide bL).cell (p := ⟨w.heap.size, 9, none⟩) (unhide hlt)).trans c9⟩)
    (first
      | (go_at_call 31; refine (okByte_calls bo _).mono ?_; rw [← unhide OB]; rintro e w1 ⟨rfl, rfl⟩)
      | (refine step_append8L rfl (.tmp 9) (.tmp 22) rfl W.heap.size none 0 0 [] rfl rfl (OwnB.ofNil _ _) (some ⟨W.heap.size, 0, none⟩) 4 4 rfl [kd, fr, to, ob] rfl (by exact unhide hlit) (fun h => by cases h) (by simp) (by exact (unhide bL).size) ?_; intro sp1 n1 k1 W1 hn1 ho1 hg1 hl1; have hb1 : Below W.heap.size W W1 := (unhide bL).trans ((Below.refl _ _).grown hg1 (unhide bL).size (fun j e => by cases e))))
  rw [List.nil_append] at hn1 ho1
  have O1 := hide ho1
  have B1 := hide hb1
  obtain ⟨e0, e1, e2, e3, e4, e5, e6, e7, e8, e9, e10, e11⟩ := twelve_cells ((hb1.block _ (unhide hlt)).trans (unhide X0))
  clear hb1 ho1 hg1 hl1 c0 c1 c2 c3 c4 c5 c6 c7 c8 c9 c10 c11
  go_wp2_with fail
  refine (msgNumbers_calls kd fr to t ix lt cm hi ro bo ep en ec dp dm dc _).mono ?_
  rintro e W2 ⟨rfl, hb2⟩
  have O2 := hide ((unhide O1).later hb2)
  have B2 := hide ((unhide B1).trans (hb2.mono (unhide B1).size))
  clear hb2 O1 B1 e0 e1 e2 e3 e4 e5 e6 e7 e8 e9 e10 e11
  go_wp2_with fail
  go_loopw [0, 26] (fun v i wr => ∃ (j n : Nat) (sp : Option Addr) (c : Nat) (Lx : List Nat), v = .slice sp n c ∧ i = .int .i64 (j : Int) ∧ j ≤ 6 ∧ Hid (Lx.length = n) ∧ Hid (OwnB W.heap.size wr sp c Lx) ∧ Hid (Lx ++ numsB ([t, ix, lt, cm, hi, ro].drop j) = headB kd fr to ob ++ numsB [t, ix, lt, cm, hi, ro]) ∧ Hid (Lx.length ≤ 4 + 6 * j) ∧ Hid (Below W.heap.size W wr)) (fun _ i _ => 6 - (intOf i).toNat)
  case atStart => exact ⟨0, n1, sp1, k1, [kd, fr, to, ob], rfl, rfl, by omega, hn1, unhide O2, rfl, (show [kd, fr, to, ob].length ≤ 4 + 6 * 0 from Nat.le_refl 4), unhide B2⟩
  case round =>
    obtain ⟨j, n, sp, c, Lx, rfl, rfl, hj, hLn, hLo, hLT, hLl, hB⟩ := hrel
    rcases (by omega : j = 0 ∨ j = 1 ∨ j = 2 ∨ j = 3 ∨ j = 4 ∨ j = 5 ∨ ¬ j < 6) with rfl | rfl | rfl | rfl | rfl | rfl | h6
    · have hix := index6_0 (t : Int) (ix : Int) (lt : Int) (cm : Int) (hi : Int) (ro : Int)
      go_wp2_with fail
      refine (addNumber_calls W.heap.size sp n c Lx t _ (unhide hLn) (unhide hLo) (by have := unhide hLl; omega) (unhide HK).ht (by exact (unhide hB).size)).mono ?_
      rintro e w1 ⟨sp', n', c', rfl, hn', ho', hb'⟩
      have T1 := hide (show (Lx ++ numB t) ++ numsB [ix, lt, cm, hi, ro] = headB kd fr to ob ++ numsB [t, ix, lt, cm, hi, ro] by rw [← unhide hLT, List.append_assoc]; rfl)
      have L1 := hide (show (Lx ++ numB t).length ≤ 4 + 6 * 1 by have := numB_six t (unhide HK).ht; have := unhide hLl; rw [List.length_append]; omega)
      have P1 := hide ((unhide hB).trans hb')
      have O1' := hide ho'
      clear hb' ho'
      go_wp2
      exact ⟨⟨1, n', sp', c', Lx ++ numB t, rfl, rfl, by omega, hn', unhide O1', unhide T1, unhide L1, unhide P1⟩, by simp [intOf]⟩
    · have hix := index6_1 (t : Int) (ix : Int) (lt : Int) (cm : Int) (hi : Int) (ro : Int)
      go_wp2_with fail
      refine (addNumber_calls W.heap.size sp n c Lx ix _ (unhide hLn) (unhide hLo) (by have := unhide hLl; omega) (unhide HK).hix (by exact (unhide hB).size)).mono ?_
      rintro e w1 ⟨sp', n', c', rfl, hn', ho', hb'⟩
      have T1 := hide (show (Lx ++ numB ix) ++ numsB [lt, cm, hi, ro] = headB kd fr to ob ++ numsB [t, ix, lt, cm, hi, ro] by rw [← unhide hLT, List.append_assoc]; rfl)
      have L1 := hide (show (Lx ++ numB ix).length ≤ 4 + 6 * 2 by have := numB_six ix (unhide HK).hix; have := unhide hLl; rw [List.length_append]; omega)
      have P1 := hide ((unhide hB).trans hb')
      have O1' := hide ho'
      clear hb' ho'
      go_wp2
      exact ⟨⟨2, n', sp', c', Lx ++ numB ix, rfl, rfl, by omega, hn', unhide O1', unhide T1, unhide L1, unhide P1⟩, by simp [intOf]⟩
    · have hix := index6_2 (t : Int) (ix : Int) (lt : Int) (cm : Int) (hi : Int) (ro : Int)
      go_wp2_with fail
      refine (addNumber_calls W.heap.size sp n c Lx lt _ (unhide hLn) (unhide hLo) (by have := unhide hLl; omega) (unhide HK).hlt (by exact (unhide hB).size)).mono ?_
      rintro e w1 ⟨sp', n', c', rfl, hn', ho', hb'⟩
      have T1 := hide (show (Lx ++ numB lt) ++ numsB [cm, hi, ro] = headB kd fr to ob ++ numsB [t, ix, lt, cm, hi, ro] by rw [← unhide hLT, List.append_assoc]; rfl)
      have L1 := hide (show (Lx ++ numB lt).length ≤ 4 + 6 * 3 by have := numB_six lt (unhide HK).hlt; have := unhide hLl; rw [List.length_append]; omega)
      have P1 := hide ((unhide hB).trans hb')
      have O1' := hide ho'
      clear hb' ho'
      go_wp2
      exact ⟨⟨3, n', sp', c', Lx ++ numB lt, rfl, rfl, by omega, hn', unhide O1', unhide T1, unhide L1, unhide P1⟩, by simp [intOf]⟩
    · have hix := index6_3 (t : Int) (ix : Int) (lt : Int) (cm : Int) (hi : Int) (ro : Int)
      go_wp2_with fail
      refine (addNumber_calls W.heap.size sp n c Lx cm _ (unhide hLn) (unhide hLo) (by have := unhide hLl; omega) (unhide HK).hcm (by exact (unhide hB).size)).mono ?_
      rintro e w1 ⟨sp', n', c', rfl, hn', ho', hb'⟩
      have T1 := hide (show (Lx ++ numB cm) ++ numsB [hi, ro] = headB kd fr to ob ++ numsB [t, ix, lt, cm, hi, ro] by rw [← unhide hLT, List.append_assoc]; rfl)
      have L1 := hide (show (Lx ++ numB cm).length ≤ 4 + 6 * 4 by have := numB_six cm (unhide HK).hcm; have := unhide hLl; rw [List.length_append]; omega)
      have P1 := hide ((unhide hB).trans hb')
      have O1' := hide ho'
      clear hb' ho'
      go_wp2
      exact ⟨⟨4, n', sp', c', Lx ++ numB cm, rfl, rfl, by omega, hn', unhide O1', unhide T1, unhide L1, unhide P1⟩, by simp [intOf]⟩
    · have hix := index6_4 (t : Int) (ix : Int) (lt : Int) (cm : Int) (hi : Int) (ro : Int)
      go_wp2_with fail
      refine (addNumber_calls W.heap.size sp n c Lx hi _ (unhide hLn) (unhide hLo) (by have := unhide hLl; omega) (unhide HK).hhi (by exact (unhide hB).size)).mono ?_
      rintro e w1 ⟨sp', n', c', rfl, hn', ho', hb'⟩
      have T1 := hide (show (Lx ++ numB hi) ++ numsB [ro] = headB kd fr to ob ++ numsB [t, ix, lt, cm, hi, ro] by rw [← unhide hLT, List.append_assoc]; rfl)
      have L1 := hide (show (Lx ++ numB hi).length ≤ 4 + 6 * 5 by have := numB_six hi (unhide HK).hhi; have := unhide hLl; rw [List.length_append]; omega)
      have P1 := hide ((unhide hB).trans hb')
      have O1' := hide ho'
      clear hb' ho'
      go_wp2
      exact ⟨⟨5, n', sp', c', Lx ++ numB hi, rfl, rfl, by omega, hn', unhide O1', unhide T1, unhide L1, unhide P1⟩, by simp [intOf]⟩
    · have hix := index6_5 (t : Int) (ix : Int) (lt : Int) (cm : Int) (hi : Int) (ro : Int)
      go_wp2_with fail
      refine (addNumber_calls W.heap.size sp n c Lx ro _ (unhide hLn) (unhide hLo) (by have := unhide hLl; omega) (unhide HK).hro (by exact (unhide hB).size)).mono ?_
      rintro e w1 ⟨sp', n', c', rfl, hn', ho', hb'⟩
      have T1 := hide (show (Lx ++ numB ro) ++ numsB [] = headB kd fr to ob ++ numsB [t, ix, lt, cm, hi, ro] by rw [← unhide hLT, List.append_assoc]; rfl)
      have L1 := hide (show (Lx ++ numB ro).length ≤ 4 + 6 * 6 by have := numB_six ro (unhide HK).hro; have := unhide hLl; rw [List.length_append]; omega)
      have P1 := hide ((unhide hB).trans hb')
      have O1' := hide ho'
      clear hb' ho'
      go_wp2
      exact ⟨⟨6, n', sp', c', Lx ++ numB ro, rfl, rfl, by omega, hn', unhide O1', unhide T1, unhide L1, unhide P1⟩, by simp [intOf]⟩
    · have hLx := hide (show Lx = headB kd fr to ob ++ numsB [t, ix, lt, cm, hi, ro] by
        have h := unhide hLT
        obtain rfl : j = 6 := by omega
        simpa [numsB] using h)
      have hl40 := hide (show Lx.length ≤ 40 by have := unhide hLl; omega)
      obtain ⟨e0, e1, e2, e3, e4, e5, e6, e7, e8, e9, e10, e11⟩ := twelve_cells (((unhide hB).block _ (unhide hlt)).trans (unhide X0))
      clear hLT hLl
      go_wp2_with fail
      refine (addNumber_calls W.heap.size sp n c Lx en _ (unhide hLn) (unhide hLo) (by have := unhide hl40; omega) (by omega) (by exact (unhide hB).size)).mono ?_
      rintro e W3 ⟨sp3, n3, c3', rfl, hn3, ho3, hb3⟩
      have B3 := hide ((unhide hB).trans hb3)
      have O3 := hide ho3
      have L3 := hide (show (Lx ++ numB en).length ≤ 50 by have := numB_six en (by omega); have := unhide hl40; rw [List.length_append]; omega)
      clear hb3 ho3 e0 e1 e2 e3 e4 e5 e6 e7 e8 e9 e10 e11
      obtain ⟨e0, e1, e2, e3, e4, e5, e6, e7, e8, e9, e10, e11⟩ := twelve_cells (((unhide B3).block _ (unhide hlt)).trans (unhide X0))
      go_wp2_with fail
      go_loopw [0, 41] (fun v i wr => ∃ (q m : Nat) (sp : Option Addr) (c : Nat) (Lz : List Nat), v = .slice sp m c ∧ i = .int .i64 (q : Int) ∧ q ≤ en ∧ Hid (Lz.length = m) ∧ Hid (OwnB W.heap.size wr sp c Lz) ∧ Hid (Lz = Lx ++ numB en ++ entsB (es.take q)) ∧ Hid (Below W.heap.size W wr)) (fun _ i _ => en - (intOf i).toNat)
      case atStart => exact ⟨0, n3, sp3, c3', Lx ++ numB en, rfl, rfl, by omega, hn3, unhide O3, (show Lx ++ numB en = Lx ++ numB en ++ entsB (es.take 0) by simp [entsB]), unhide B3⟩
      case round =>
        obtain ⟨q, m, sp, c, Lz, rfl, rfl, hq, hZn, hZo, hZT, hZB⟩ := hrel
        have hLz := hide (show Lz.length ≤ 50 + 2100 * 8 by
          rw [unhide hZT, List.length_append]
          have h1 := entsB_len (es.take q) (fun e he => (unhide HK).hes e (List.mem_of_mem_take he))
          have h2 : (es.take q).length ≤ 8 := by rw [List.length_take]; have := unhide HN; omega
          have := unhide L3
          omega)
        by_cases hqn : q < en
        · have hqe : q < (es.map toI).length := by have := unhide HN; rw [List.length_map]; omega
          have hqe' : q < es.length := by simpa using hqe
          obtain ⟨b, off, p, pc, rfl, p0, p1, p2, p3, p4, p5⟩ := (unhide HE).cell q hqe
          have hOK := (unhide HK).hes (es[q]'hqe') (List.getElem_mem _)
          have hstep := entsB_take es q hqe'
          rw [toI_get] at p0 p1 p2 p3 p4
          generalize es[q]'hqe' = ee at *
          obtain ⟨k', t', i', d'⟩ := ee
          simp only [toI] at p0 p1 p2 p3 p4
          have HO := hide hOK
          have hst := hide hstep
          have PB := hide p4
          have P5 := hide p5
          replace p0 := cell_later (unhide hZB) p0
          replace p1 := cell_later (unhide hZB) p1
          replace p2 := cell_later (unhide hZB) p2
          replace p3 := cell_later (unhide hZB) p3
          have hq0 : (0 : Int) ≤ (q : Int) := by omega
          have hq1 : (q : Int) < (en : Int) := by omega
          obtain ⟨q0, q1, q2, q3⟩ := entB_cells (heap_new wr (entB (k' : Int) (t' : Int) (i' : Int) p d'.length pc))
          have b4 := hide (show Below wr.heap.size wr (wr.alloc (entB (k' : Int) (t' : Int) (i' : Int) p d'.length pc)) from (Below.refl _ _).alloc (Nat.le_refl _) _)
          clear hOK hstep p4 p5
          go_wp2_with fail
          generalize wr.alloc (entB (k' : Int) (t' : Int) (i' : Int) p d'.length pc) = w4 at *
          have O4 := hide ((unhide hZo).later (unhide b4))
          have D4 := hide (((unhide PB).later (unhide hZB)).later (unhide b4))
          have s4 := hide (show W.heap.size ≤ w4.heap.size from Nat.le_trans (unhide hZB).size (unhide b4).size)
          refine (addEntry_grew W.heap.size sp m c Lz k' t' i' p d'.length pc d' _ (unhide hZn) (unhide O4) (by have := unhide hLz; omega) (unhide s4) (by have := (unhide HO).1; omega) (by have := (unhide HO).2.1; omega) (by have := (unhide HO).2.2.1; omega) rfl (unhide D4) (unhide P5) (fun b' off' h1 h2 e => by have := block_lt (unhide PB) h1 b' off' h2; have := ((unhide O4).blk_lt _ e).1; omega) (by have := (unhide HO).2.2.2.2; omega)).mono ?_
          rintro e w5 ⟨sp5, n5, c5, rfl, hn5, ho5, hg5⟩
          have B5 := hide (((unhide hZB).trans ((unhide b4).mono (unhide hZB).size)).trans (hg5.below (unhide O4) (unhide s4)))
          have O5 := hide ho5
          have T5 := hide (show Lz ++ entryB k' t' i' d' = Lx ++ numB en ++ entsB (es.take (q + 1)) by rw [unhide hst, unhide hZT]; simp only [List.append_assoc]; rfl)
          clear hg5 ho5
          go_wp2
          exact ⟨⟨q + 1, n5, sp5, c5, Lz ++ entryB k' t' i' d', rfl, by go_num, by omega, hn5, unhide O5, unhide T5, unhide B5⟩, by simp [intOf]; omega⟩
        · obtain ⟨g0, g1, g2, g3, g4, g5, g6, g7, g8, g9, g10, g11⟩ := twelve_cells (((unhide hZB).block _ (unhide hlt)).trans (unhide X0))
          have hT := hide (show Lz = headB kd fr to ob ++ numsB [t, ix, lt, cm, hi, ro] ++ numB es.length ++ entsB es by
            have h := unhide hZT
            rw [List.take_of_length_le (by have := unhide HN; omega), unhide hLx, ← unhide HN] at h
            exact h)
          clear e0 e1 e2 e3 e4 e5 e6 e7 e8 e9 e10 e11
          go_wp2_with fail
          refine (addData_grew W.heap.size sp m c Lz dp dm dc d _ (unhide hZn) (unhide hZo) (by have := unhide hLz; omega) (by exact (unhide hZB).size) (unhide HD) ((unhide HB).later (unhide hZB)) (unhide HZ) (fun b' off' h1 h2 e => by have := block_lt (unhide HB) h1 b' off' h2; have := ((unhide hZo).blk_lt _ e).1; omega) (by have := unhide HD; omega)).mono ?_
          rintro e w5 ⟨sp5, n5, c5, rfl, hn5, ho5, hg5⟩
          have hdm := unhide HD
          have hfin : Lz ++ (numB dm ++ d) = msgB kd fr to t ix lt cm hi ro ob es d := by rw [unhide hT, ← hdm]; rfl
          rw [hfin] at hn5 ho5
          have F5 := hide ((unhide BA).trans (((unhide hZB).trans (hg5.below (unhide hZo) (unhide hZB).size)).mono (unhide BA).size))
          have O5 := hide (ho5.mono (unhide BA).size)
          clear hg5 ho5 hfin hdm
          go_wp2
          go_ret
          exact ⟨sp5, n5, c5, rfl, hn5, unhide O5, unhide F5⟩
end Go.Proofs.Ytilkginjppgcoaa
