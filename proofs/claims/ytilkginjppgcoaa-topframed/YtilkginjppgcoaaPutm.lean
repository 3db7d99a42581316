/- The contracts of wire.okByte, msgNumbers, msgMayBe, msgFits, addMsg, PutMsg where a message may be put. -/
import Derived.Test.YtilkginjppgcoaaSames
namespace Go.Proofs.Ytilkginjppgcoaa
open Go.ChangeShapes Go.WideShapes Go.ChangeAt Go.RowKit

theorem okByte_calls (bo : Bool) (w : World) : Calls Try.prog 31 #[.bool bo] w fun e w' => e = .returned (.int .u8 ((if bo then 1 else 0 : Nat) : Int)) ∧ w' = w := by
  cases bo
  · go_enter Try.func31, Try.ntmps31
    go_wp2
    go_ret
    exact ⟨rfl, rfl⟩
  · go_enter Try.func31, Try.ntmps31
    go_wp2
    go_ret
    exact ⟨rfl, rfl⟩
set_option maxHeartbeats 1000000 in
theorem msgNumbers_calls (kd fr to t ix lt cm hi ro : Int) (bo : Bool) (ep : Option Addr) (en ec : Nat) (dp : Option Addr) (dm dc : Nat) (w : World) :
    Calls Try.prog 29 #[.agg #[.int .i64 kd, .int .i64 fr, .int .i64 to, .int .i64 t, .int .i64 ix, .int .i64 lt, .int .i64 cm, .int .i64 hi, .int .i64 ro, .bool bo, .slice ep en ec, .slice dp dm dc]] w fun e w' => e = .returned (.agg #[.int .i64 t, .int .i64 ix, .int .i64 lt, .int .i64 cm, .int .i64 hi, .int .i64 ro]) ∧ Below w.heap.size w w' := by
  obtain ⟨c0, c1, c2, c3, c4, c5, c6, c7, c8, c9, c10, c11⟩ := twelve_cells (heap_new w (.cells #[.int .i64 kd, .int .i64 fr, .int .i64 to, .int .i64 t, .int .i64 ix, .int .i64 lt, .int .i64 cm, .int .i64 hi, .int .i64 ro, .bool bo, .slice ep en ec, .slice dp dm dc] 26))
  go_enter Try.func29, Try.ntmps29
  go_wp2_with fail
  refine bodyPost_ret (v := .agg #[.int .i64 t, .int .i64 ix, .int .i64 lt, .int .i64 cm, .int .i64 hi, .int .i64 ro]) (by simp [results, Try.results29, go_sem]) rfl ?_
  exact ⟨rfl, ((Below.refl _ _).alloc (Nat.le_refl _) _).alloc (by rw [size_alloc]; omega) _⟩

theorem index6_0 (x0 x1 x2 x3 x4 x5 : Int) (w : World) : (Instr.index 68 (.agg #[.int .i64 x0, .int .i64 x1, .int .i64 x2, .int .i64 x3, .int .i64 x4, .int .i64 x5]) (.int .i64 0)).run Try.prog w = .ok (.int .i64 x0) w := by kernel_rfl
theorem index6_1 (x0 x1 x2 x3 x4 x5 : Int) (w : World) : (Instr.index 68 (.agg #[.int .i64 x0, .int .i64 x1, .int .i64 x2, .int .i64 x3, .int .i64 x4, .int .i64 x5]) (.int .i64 1)).run Try.prog w = .ok (.int .i64 x1) w := by kernel_rfl
theorem index6_2 (x0 x1 x2 x3 x4 x5 : Int) (w : World) : (Instr.index 68 (.agg #[.int .i64 x0, .int .i64 x1, .int .i64 x2, .int .i64 x3, .int .i64 x4, .int .i64 x5]) (.int .i64 2)).run Try.prog w = .ok (.int .i64 x2) w := by kernel_rfl
theorem index6_3 (x0 x1 x2 x3 x4 x5 : Int) (w : World) : (Instr.index 68 (.agg #[.int .i64 x0, .int .i64 x1, .int .i64 x2, .int .i64 x3, .int .i64 x4, .int .i64 x5]) (.int .i64 3)).run Try.prog w = .ok (.int .i64 x3) w := by kernel_rfl
theorem index6_4 (x0 x1 x2 x3 x4 x5 : Int) (w : World) : (Instr.index 68 (.agg #[.int .i64 x0, .int .i64 x1, .int .i64 x2, .int .i64 x3, .int .i64 x4, .int .i64 x5]) (.int .i64 4)).run Try.prog w = .ok (.int .i64 x4) w := by kernel_rfl
theorem index6_5 (x0 x1 x2 x3 x4 x5 : Int) (w : World) : (Instr.index 68 (.agg #[.int .i64 x0, .int .i64 x1, .int .i64 x2, .int .i64 x3, .int .i64 x4, .int .i64 x5]) (.int .i64 5)).run Try.prog w = .ok (.int .i64 x5) w := by kernel_rfl
/-- May a message be put? -/
structure MsgOk (kd fr to t ix lt cm hi ro : Nat) (es : List EntN) (d : List Nat) : Prop where
  hkd : 1 ≤ kd ∧ kd ≤ 7
  hfr : 1 ≤ fr ∧ fr ≤ 9
  hto : 1 ≤ to ∧ to ≤ 9
  ht : t ≤ 1099511627776
  hix : ix ≤ 1099511627776
  hlt : lt ≤ 1099511627776
  hcm : cm ≤ 1099511627776
  hhi : hi ≤ 1099511627776
  hro : ro ≤ 1099511627776
  hes : ∀ e ∈ es, EntOk e.1 e.2.1 e.2.2.1 e.2.2.2
  hfew : es.length ≤ 8
  hd : d.length ≤ 32768
theorem toI_get (es : List EntN) (j : Nat) (h : j < (es.map toI).length) : (es.map toI)[j] = toI (es[j]'(by simpa using h)) := by simp
theorem entOk_mayI {k t i : Nat} {d : List Nat} (h : EntOk k t i d) : MayE k t i d.length := by
  obtain ⟨⟨h1, h1'⟩, ⟨h2, h2'⟩, ⟨h3, h3'⟩, h4, h5⟩ := h
  refine ⟨⟨by omega, by omega⟩, ⟨by omega, by omega⟩, ⟨by omega, by omega⟩, ?_⟩
  by_cases hk : k = 1
  · exact .inr (by rw [h4 hk]; rfl)
  · exact .inl (by omega)
set_option maxRecDepth 20000 in
set_option maxHeartbeats 4000000 in
theorem msgMayBe_yes (kd fr to t ix lt cm hi ro : Nat) (bo : Bool) (ep : Option Addr) (en ec : Nat) (dp : Option Addr) (dm dc : Nat) (es : List EntN) (d : List Nat) (w : World) (hok : MsgOk kd fr to t ix lt cm hi ro es d) (hn : es.length = en) (hE : EntsAt w ep (es.map toI)) :
    Calls Try.prog 12 #[.agg #[.int .i64 (kd : Int), .int .i64 (fr : Int), .int .i64 (to : Int), .int .i64 (t : Int), .int .i64 (ix : Int), .int .i64 (lt : Int), .int .i64 (cm : Int), .int .i64 (hi : Int), .int .i64 (ro : Int), .bool bo, .slice ep en ec, .slice dp dm dc]] w fun e w' => e = .returned (.bool true) ∧ Below w.heap.size w w' := by
  have x0 := heap_new w (.cells #[.int .i64 (kd : Int), .int .i64 (fr : Int), .int .i64 (to : Int), .int .i64 (t : Int), .int .i64 (ix : Int), .int .i64 (lt : Int), .int .i64 (cm : Int), .int .i64 (hi : Int), .int .i64 (ro : Int), .bool bo, .slice ep en ec, .slice dp dm dc] 26)
  obtain ⟨c0, c1, c2, c3, c4, c5, c6, c7, c8, c9, c10, c11⟩ := twelve_cells x0
  have X0 := hide x0
  have BA := hide (show Below w.heap.size w (w.alloc (.cells #[.int .i64 (kd : Int), .int .i64 (fr : Int), .int .i64 (to : Int), .int .i64 (t : Int), .int .i64 (ix : Int), .int .i64 (lt : Int), .int .i64 (cm : Int), .int .i64 (hi : Int), .int .i64 (ro : Int), .bool bo, .slice ep en ec, .slice dp dm dc] 26)) from (Below.refl _ _).alloc (Nat.le_refl _) _)
  have HE := hide hE
  have HN := hide hn
  have HK := hide hok
  have h8 : en ≤ 8 := by have := hok.hfew; omega
  clear x0 hE hn hok
  go_enter Try.func12, Try.ntmps12
  go_wp2_with fail
  generalize w.alloc (.cells #[.int .i64 (kd : Int), .int .i64 (fr : Int), .int .i64 (to : Int), .int .i64 (t : Int), .int .i64 (ix : Int), .int .i64 (lt : Int), .int .i64 (cm : Int), .int .i64 (hi : Int), .int .i64 (ro : Int), .bool bo, .slice ep en ec, .slice dp dm dc] 26) = W at *
  refine (within_yes kd 1 7 _ (by have := (unhide HK).hkd; omega)).mono ?_
  rintro e w1 ⟨rfl, rfl⟩
  go_wp2_with fail
  refine (within_yes fr 1 9 _ (by have := (unhide HK).hfr; omega)).mono ?_
  rintro e w1 ⟨rfl, rfl⟩
  go_wp2_with fail
  refine (within_yes to 1 9 _ (by have := (unhide HK).hto; omega)).mono ?_
  rintro e w1 ⟨rfl, rfl⟩
  go_wp2_with fail
  refine (msgNumbers_calls kd fr to t ix lt cm hi ro bo ep en ec dp dm dc _).mono ?_
  rintro e W1 ⟨rfl, hb1⟩
  have F1 := hide ((unhide BA).trans (hb1.mono (unhide BA).size))
  have X1 := hide ((hb1.block _ (Array.getElem?_eq_some_iff.1 (unhide X0)).1).trans (unhide X0))
  have hlt1 := hide (show w.heap.size < W1.heap.size from Nat.lt_of_lt_of_le (Array.getElem?_eq_some_iff.1 (unhide X0)).1 hb1.size)
  clear hb1 BA X0 c0 c1 c2 c3 c4 c5 c6 c7 c8 c9 c10 c11
  go_wp2_with fail
  go_loopw [25] (fun i wr => ∃ j : Nat, j ≤ 6 ∧ i = .int .i64 (j : Int) ∧ wr = W1) (fun i _ => 6 - (intOf i).toNat)
  case atStart => exact ⟨0, by omega, rfl, rfl⟩
  case round =>
    obtain ⟨j, hj, rfl, rfl⟩ := hrel
    rcases (by omega : j = 0 ∨ j = 1 ∨ j = 2 ∨ j = 3 ∨ j = 4 ∨ j = 5 ∨ ¬ j < 6) with rfl | rfl | rfl | rfl | rfl | rfl | h6
    · have hix := index6_0 (t : Int) (ix : Int) (lt : Int) (cm : Int) (hi : Int) (ro : Int)
      go_wp2_with fail
      refine (within_yes t 0 1099511627776 _ (by have := (unhide HK).ht; omega)).mono ?_
      rintro e w1 ⟨rfl, rfl⟩
      go_wp2
      exact ⟨⟨1, by omega, rfl, by first | rfl | trivial⟩, by simp [intOf]⟩
    · have hix := index6_1 (t : Int) (ix : Int) (lt : Int) (cm : Int) (hi : Int) (ro : Int)
      go_wp2_with fail
      refine (within_yes ix 0 1099511627776 _ (by have := (unhide HK).hix; omega)).mono ?_
      rintro e w1 ⟨rfl, rfl⟩
      go_wp2
      exact ⟨⟨2, by omega, rfl, by first | rfl | trivial⟩, by simp [intOf]⟩
    · have hix := index6_2 (t : Int) (ix : Int) (lt : Int) (cm : Int) (hi : Int) (ro : Int)
      go_wp2_with fail
      refine (within_yes lt 0 1099511627776 _ (by have := (unhide HK).hlt; omega)).mono ?_
      rintro e w1 ⟨rfl, rfl⟩
      go_wp2
      exact ⟨⟨3, by omega, rfl, by first | rfl | trivial⟩, by simp [intOf]⟩
    · have hix := index6_3 (t : Int) (ix : Int) (lt : Int) (cm : Int) (hi : Int) (ro : Int)
      go_wp2_with fail
      refine (within_yes cm 0 1099511627776 _ (by have := (unhide HK).hcm; omega)).mono ?_
      rintro e w1 ⟨rfl, rfl⟩
      go_wp2
      exact ⟨⟨4, by omega, rfl, by first | rfl | trivial⟩, by simp [intOf]⟩
    · have hix := index6_4 (t : Int) (ix : Int) (lt : Int) (cm : Int) (hi : Int) (ro : Int)
      go_wp2_with fail
      refine (within_yes hi 0 1099511627776 _ (by have := (unhide HK).hhi; omega)).mono ?_
      rintro e w1 ⟨rfl, rfl⟩
      go_wp2
      exact ⟨⟨5, by omega, rfl, by first | rfl | trivial⟩, by simp [intOf]⟩
    · have hix := index6_5 (t : Int) (ix : Int) (lt : Int) (cm : Int) (hi : Int) (ro : Int)
      go_wp2_with fail
      refine (within_yes ro 0 1099511627776 _ (by have := (unhide HK).hro; omega)).mono ?_
      rintro e w1 ⟨rfl, rfl⟩
      go_wp2
      exact ⟨⟨6, by omega, rfl, by first | rfl | trivial⟩, by simp [intOf]⟩
    · obtain ⟨c0, c1, c2, c3, c4, c5, c6, c7, c8, c9, c10, c11⟩ := twelve_cells (unhide X1)
      go_wp2_with fail
      go_loopw [35] (fun i wr => ∃ j : Nat, j ≤ en ∧ i = .int .i64 (j : Int) ∧ Hid (Below w.heap.size w wr)) (fun i _ => en - (intOf i).toNat)
      case atStart => exact ⟨0, by omega, rfl, unhide F1⟩
      case round =>
        obtain ⟨j, hj, rfl, F⟩ := hrel
        by_cases hjn : j < en
        · have hje : j < (es.map toI).length := by have := unhide HN; rw [List.length_map]; omega
          obtain ⟨b, off, p, pc, rfl, p0, p1, p2, p3, p4, _⟩ := ((unhide HE).later (unhide F)).cell j hje
          have hOK := (unhide HK).hes (es[j]'(by simpa using hje)) (List.getElem_mem _)
          rw [toI_get] at p0 p1 p2 p3 p4
          generalize es[j]'(by simpa using hje) = ee at *
          obtain ⟨k', t', i', d'⟩ := ee
          have HO := hide hOK
          simp only [toI] at p0 p1 p2 p3
          have hj0 : (0 : Int) ≤ (j : Int) := by omega
          have hj1 : (j : Int) < (en : Int) := by omega
          obtain ⟨q0, q1, q2, q3⟩ := entB_cells (heap_new wr (entB (k' : Int) (t' : Int) (i' : Int) p d'.length pc))
          have b2 := hide (show Below wr.heap.size wr (wr.alloc (entB (k' : Int) (t' : Int) (i' : Int) p d'.length pc)) from (Below.refl _ _).alloc (Nat.le_refl _) _)
          clear hOK p4
          go_wp2_with fail
          generalize wr.alloc (entB (k' : Int) (t' : Int) (i' : Int) p d'.length pc) = w3 at *
          refine (mayBe_yes k' t' i' p d'.length pc _ (entOk_mayI (unhide HO))).mono ?_
          rintro e w4 ⟨rfl, hb4⟩
          have F4 := hide ((unhide F).trans (((unhide b2).trans (hb4.mono (unhide b2).size)).mono (unhide F).size))
          clear hb4
          go_wp2
          exact ⟨⟨j + 1, by omega, by go_num, unhide F4⟩, by simp [intOf]; omega⟩
        · go_wp2
          go_ret
          exact ⟨rfl, unhide F⟩
set_option maxRecDepth 20000 in
set_option maxHeartbeats 4000000 in
theorem msgFits_yes (kd fr to t ix lt cm hi ro : Nat) (bo : Bool) (ep : Option Addr) (en ec : Nat) (dp : Option Addr) (dm dc : Nat) (es : List EntN) (d : List Nat) (w : World) (hok : MsgOk kd fr to t ix lt cm hi ro es d) (hn : es.length = en) (hd : d.length = dm) (hE : EntsAt w ep (es.map toI)) :
    Calls Try.prog 13 #[.agg #[.int .i64 (kd : Int), .int .i64 (fr : Int), .int .i64 (to : Int), .int .i64 (t : Int), .int .i64 (ix : Int), .int .i64 (lt : Int), .int .i64 (cm : Int), .int .i64 (hi : Int), .int .i64 (ro : Int), .bool bo, .slice ep en ec, .slice dp dm dc]] w fun e w' => e = .returned (.bool true) ∧ Below w.heap.size w w' := by
  have x0 := heap_new w (.cells #[.int .i64 (kd : Int), .int .i64 (fr : Int), .int .i64 (to : Int), .int .i64 (t : Int), .int .i64 (ix : Int), .int .i64 (lt : Int), .int .i64 (cm : Int), .int .i64 (hi : Int), .int .i64 (ro : Int), .bool bo, .slice ep en ec, .slice dp dm dc] 26)
  obtain ⟨c0, c1, c2, c3, c4, c5, c6, c7, c8, c9, c10, c11⟩ := twelve_cells x0
  have BA := hide (show Below w.heap.size w (w.alloc (.cells #[.int .i64 (kd : Int), .int .i64 (fr : Int), .int .i64 (to : Int), .int .i64 (t : Int), .int .i64 (ix : Int), .int .i64 (lt : Int), .int .i64 (cm : Int), .int .i64 (hi : Int), .int .i64 (ro : Int), .bool bo, .slice ep en ec, .slice dp dm dc] 26)) from (Below.refl _ _).alloc (Nat.le_refl _) _)
  have HE := hide hE
  have HN := hide hn
  have HK := hide hok
  have h8 : en ≤ 8 := by have := hok.hfew; omega
  have hd8 : dm ≤ 32768 := by have := hok.hd; omega
  clear x0 hE hn hok hd
  go_enter Try.func13, Try.ntmps13
  go_wp2_with fail
  generalize w.alloc (.cells #[.int .i64 (kd : Int), .int .i64 (fr : Int), .int .i64 (to : Int), .int .i64 (t : Int), .int .i64 (ix : Int), .int .i64 (lt : Int), .int .i64 (cm : Int), .int .i64 (hi : Int), .int .i64 (ro : Int), .bool bo, .slice ep en ec, .slice dp dm dc] 26) = W at *
  go_loopw [18] (fun i wr => ∃ j : Nat, j ≤ en ∧ i = .int .i64 (j : Int) ∧ Hid (Below w.heap.size w wr)) (fun i _ => en - (intOf i).toNat)
  case atStart => exact ⟨0, by omega, rfl, unhide BA⟩
  case round =>
    obtain ⟨j, hj, rfl, F⟩ := hrel
    by_cases hjn : j < en
    · have hje : j < (es.map toI).length := by have := unhide HN; rw [List.length_map]; omega
      obtain ⟨b, off, p, pc, rfl, p0, p1, p2, p3, p4, _⟩ := ((unhide HE).later (unhide F)).cell j hje
      have hOK := (unhide HK).hes (es[j]'(by simpa using hje)) (List.getElem_mem _)
      rw [toI_get] at p0 p1 p2 p3 p4
      generalize es[j]'(by simpa using hje) = ee at *
      obtain ⟨k', t', i', d'⟩ := ee
      simp only [toI] at p0 p1 p2 p3
      have h48 : d'.length ≤ 2048 := hOK.2.2.2.2
      have hj0 : (0 : Int) ≤ (j : Int) := by omega
      have hj1 : (j : Int) < (en : Int) := by omega
      obtain ⟨q0, q1, q2, q3⟩ := entB_cells (heap_new wr (entB (k' : Int) (t' : Int) (i' : Int) p d'.length pc))
      have F4 := hide ((unhide F).alloc (unhide F).size (entB (k' : Int) (t' : Int) (i' : Int) p d'.length pc))
      clear hOK p4
      go_wp2
      exact ⟨⟨j + 1, by omega, by go_num, unhide F4⟩, by simp [intOf]; omega⟩
    · go_wp2
      go_ret
      exact ⟨rfl, unhide F⟩
end Go.Proofs.Ytilkginjppgcoaa
