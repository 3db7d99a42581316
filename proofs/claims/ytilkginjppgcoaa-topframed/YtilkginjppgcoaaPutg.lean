/- The contracts of wire.msgMayBe, msgFits, PutMsg, whatever the message. -/
import Derived.Test.YtilkginjppgcoaaPutn
namespace Go.Proofs.Ytilkginjppgcoaa
open Go.ChangeShapes Go.WideShapes Go.ChangeAt Go.RowKit

/-- May a message be, its lengths left out? -/
def MayM (kd fr to t ix lt cm hi ro : Int) (es : List EntI) : Prop := ((1 ≤ kd ∧ kd ≤ 7) ∧ (1 ≤ fr ∧ fr ≤ 9) ∧ (1 ≤ to ∧ to ≤ 9)) ∧ (∀ x ∈ [t, ix, lt, cm, hi, ro], 0 ≤ x ∧ x ≤ 1099511627776) ∧ ∀ e ∈ es, MayE e.1 e.2.1 e.2.2.1 e.2.2.2.length
set_option maxRecDepth 20000 in
set_option maxHeartbeats 8000000 in
theorem msgMayBe_any (kd fr to t ix lt cm hi ro : Int) (bo : Bool) (ep : Option Addr) (en ec : Nat) (dp : Option Addr) (dm dc : Nat) (es : List EntI) (w : World) (hn : es.length = en) (hmax : en ≤ 9223372036854775807) (hE : EntsAt w ep es) :
    Calls Try.prog 12 #[.agg #[.int .i64 kd, .int .i64 fr, .int .i64 to, .int .i64 t, .int .i64 ix, .int .i64 lt, .int .i64 cm, .int .i64 hi, .int .i64 ro, .bool bo, .slice ep en ec, .slice dp dm dc]] w fun e w' => (∃ b, e = .returned (.bool b) ∧ (b = true ↔ MayM kd fr to t ix lt cm hi ro es)) ∧ Below w.heap.size w w' := by
  have x0 := heap_new w (.cells #[.int .i64 kd, .int .i64 fr, .int .i64 to, .int .i64 t, .int .i64 ix, .int .i64 lt, .int .i64 cm, .int .i64 hi, .int .i64 ro, .bool bo, .slice ep en ec, .slice dp dm dc] 26)
  obtain ⟨c0, c1, c2, c3, c4, c5, c6, c7, c8, c9, c10, c11⟩ := twelve_cells x0
  have X0 := hide x0
  have BA := hide (show Below w.heap.size w (w.alloc (.cells #[.int .i64 kd, .int .i64 fr, .int .i64 to, .int .i64 t, .int .i64 ix, .int .i64 lt, .int .i64 cm, .int .i64 hi, .int .i64 ro, .bool bo, .slice ep en ec, .slice dp dm dc] 26)) from (Below.refl _ _).alloc (Nat.le_refl _) _)
  have HE := hide hE
  have HN := hide hn
  clear x0 hE hn
  go_enter Try.func12, Try.ntmps12
  go_wp2_with fail
  generalize w.alloc (.cells #[.int .i64 kd, .int .i64 fr, .int .i64 to, .int .i64 t, .int .i64 ix, .int .i64 lt, .int .i64 cm, .int .i64 hi, .int .i64 ro, .bool bo, .slice ep en ec, .slice dp dm dc] 26) = W at *
  by_cases h1 : 1 ≤ kd ∧ kd ≤ 7
  rotate_left
  · have HH := hide h1
    clear h1
    refine (within_no kd 1 7 _ (unhide HH)).mono ?_
    rintro e w1 ⟨rfl, rfl⟩
    go_wp2
    go_ret
    exact ⟨⟨false, rfl, by simp only [Bool.false_eq_true, false_iff]; exact fun hm => unhide HH (hm.1.1)⟩, unhide BA⟩
  refine (within_yes kd 1 7 _ h1).mono ?_
  rintro e w1 ⟨rfl, rfl⟩
  have H_h1 := hide h1
  clear h1
  go_wp2_with fail
  by_cases h2 : 1 ≤ fr ∧ fr ≤ 9
  rotate_left
  · have HH := hide h2
    clear h2
    refine (within_no fr 1 9 _ (unhide HH)).mono ?_
    rintro e w1 ⟨rfl, rfl⟩
    go_wp2
    go_ret
    exact ⟨⟨false, rfl, by simp only [Bool.false_eq_true, false_iff]; exact fun hm => unhide HH (hm.1.2.1)⟩, unhide BA⟩
  refine (within_yes fr 1 9 _ h2).mono ?_
  rintro e w1 ⟨rfl, rfl⟩
  have H_h2 := hide h2
  clear h2
  go_wp2_with fail
  by_cases h3 : 1 ≤ to ∧ to ≤ 9
  rotate_left
  · have HH := hide h3
    clear h3
    refine (within_no to 1 9 _ (unhide HH)).mono ?_
    rintro e w1 ⟨rfl, rfl⟩
    go_wp2
    go_ret
    exact ⟨⟨false, rfl, by simp only [Bool.false_eq_true, false_iff]; exact fun hm => unhide HH (hm.1.2.2)⟩, unhide BA⟩
  refine (within_yes to 1 9 _ h3).mono ?_
  rintro e w1 ⟨rfl, rfl⟩
  have H_h3 := hide h3
  clear h3
  go_wp2_with fail
  refine (msgNumbers_calls kd fr to t ix lt cm hi ro bo ep en ec dp dm dc _).mono ?_
  rintro e W1 ⟨rfl, hb1⟩
  have F1 := hide ((unhide BA).trans (hb1.mono (unhide BA).size))
  have X1 := hide ((hb1.block _ (Array.getElem?_eq_some_iff.1 (unhide X0)).1).trans (unhide X0))
  clear hb1 BA X0 c0 c1 c2 c3 c4 c5 c6 c7 c8 c9 c10 c11
  go_wp2_with fail
  go_loopw [25] (fun i wr => ∃ j : Nat, j ≤ 6 ∧ i = .int .i64 (j : Int) ∧ wr = W1 ∧ Hid (∀ x ∈ [t, ix, lt, cm, hi, ro].take j, 0 ≤ x ∧ x ≤ 1099511627776)) (fun i _ => 6 - (intOf i).toNat)
  case atStart => exact ⟨0, by omega, rfl, rfl, by simp [Hid]⟩
  case round =>
    obtain ⟨j, hj, rfl, rfl, hall⟩ := hrel
    rcases (by omega : j = 0 ∨ j = 1 ∨ j = 2 ∨ j = 3 ∨ j = 4 ∨ j = 5 ∨ ¬ j < 6) with rfl | rfl | rfl | rfl | rfl | rfl | h6
    · have hix := index6_0 t ix lt cm hi ro
      go_wp2_with fail
      by_cases hw : 0 ≤ t ∧ t ≤ 1099511627776
      · have HA := hide (show ∀ x ∈ [t, ix, lt, cm, hi, ro].take 1, 0 ≤ x ∧ x ≤ 1099511627776 by
          intro x hx
          have h := unhide hall x
          simp at hx h
          rcases hx with rfl
          all_goals first | exact hw | exact h (by simp)
          )
        refine (within_yes t 0 1099511627776 _ hw).mono ?_
        rintro e w1 ⟨rfl, rfl⟩
        clear hw
        go_wp2
        exact ⟨⟨1, by omega, rfl, by first | rfl | trivial, unhide HA⟩, by simp [intOf]⟩
      · have HH := hide hw
        clear hw
        refine (within_no t 0 1099511627776 _ (unhide HH)).mono ?_
        rintro e w1 ⟨rfl, rfl⟩
        go_wp2
        go_ret
        exact ⟨⟨false, rfl, by simp only [Bool.false_eq_true, false_iff]; exact fun hm => unhide HH (hm.2.1 t (by simp))⟩, unhide F1⟩
    · have hix := index6_1 t ix lt cm hi ro
      go_wp2_with fail
      by_cases hw : 0 ≤ ix ∧ ix ≤ 1099511627776
      · have HA := hide (show ∀ x ∈ [t, ix, lt, cm, hi, ro].take 2, 0 ≤ x ∧ x ≤ 1099511627776 by
          intro x hx
          have h := unhide hall x
          simp at hx h
          rcases hx with rfl | rfl
          all_goals first | exact hw | exact h (by simp)
          )
        refine (within_yes ix 0 1099511627776 _ hw).mono ?_
        rintro e w1 ⟨rfl, rfl⟩
        clear hw
        go_wp2
        exact ⟨⟨2, by omega, rfl, by first | rfl | trivial, unhide HA⟩, by simp [intOf]⟩
      · have HH := hide hw
        clear hw
        refine (within_no ix 0 1099511627776 _ (unhide HH)).mono ?_
        rintro e w1 ⟨rfl, rfl⟩
        go_wp2
        go_ret
        exact ⟨⟨false, rfl, by simp only [Bool.false_eq_true, false_iff]; exact fun hm => unhide HH (hm.2.1 ix (by simp))⟩, unhide F1⟩
    · have hix := index6_2 t ix lt cm hi ro
      go_wp2_with fail
      by_cases hw : 0 ≤ lt ∧ lt ≤ 1099511627776
      · have HA := hide (show ∀ x ∈ [t, ix, lt, cm, hi, ro].take 3, 0 ≤ x ∧ x ≤ 1099511627776 by
          intro x hx
          have h := unhide hall x
          simp at hx h
          rcases hx with rfl | rfl | rfl
          all_goals first | exact hw | exact h (by simp)
          )
        refine (within_yes lt 0 1099511627776 _ hw).mono ?_
        rintro e w1 ⟨rfl, rfl⟩
        clear hw
        go_wp2
        exact ⟨⟨3, by omega, rfl, by first | rfl | trivial, unhide HA⟩, by simp [intOf]⟩
      · have HH := hide hw
        clear hw
        refine (within_no lt 0 1099511627776 _ (unhide HH)).mono ?_
        rintro e w1 ⟨rfl, rfl⟩
        go_wp2
        go_ret
        exact ⟨⟨false, rfl, by simp only [Bool.false_eq_true, false_iff]; exact fun hm => unhide HH (hm.2.1 lt (by simp))⟩, unhide F1⟩
    · have hix := index6_3 t ix lt cm hi ro
      go_wp2_with fail
      by_cases hw : 0 ≤ cm ∧ cm ≤ 1099511627776
      · have HA := hide (show ∀ x ∈ [t, ix, lt, cm, hi, ro].take 4, 0 ≤ x ∧ x ≤ 1099511627776 by
          intro x hx
          have h := unhide hall x
          simp at hx h
          rcases hx with rfl | rfl | rfl | rfl
          all_goals first | exact hw | exact h (by simp)
          )
        refine (within_yes cm 0 1099511627776 _ hw).mono ?_
        rintro e w1 ⟨rfl, rfl⟩
        clear hw
        go_wp2
        exact ⟨⟨4, by omega, rfl, by first | rfl | trivial, unhide HA⟩, by simp [intOf]⟩
      · have HH := hide hw
        clear hw
        refine (within_no cm 0 1099511627776 _ (unhide HH)).mono ?_
        rintro e w1 ⟨rfl, rfl⟩
        go_wp2
        go_ret
        exact ⟨⟨false, rfl, by simp only [Bool.false_eq_true, false_iff]; exact fun hm => unhide HH (hm.2.1 cm (by simp))⟩, unhide F1⟩
    · have hix := index6_4 t ix lt cm hi ro
      go_wp2_with fail
      by_cases hw : 0 ≤ hi ∧ hi ≤ 1099511627776
      · have HA := hide (show ∀ x ∈ [t, ix, lt, cm, hi, ro].take 5, 0 ≤ x ∧ x ≤ 1099511627776 by
          intro x hx
          have h := unhide hall x
          simp at hx h
          rcases hx with rfl | rfl | rfl | rfl | rfl
          all_goals first | exact hw | exact h (by simp)
          )
        refine (within_yes hi 0 1099511627776 _ hw).mono ?_
        rintro e w1 ⟨rfl, rfl⟩
        clear hw
        go_wp2
        exact ⟨⟨5, by omega, rfl, by first | rfl | trivial, unhide HA⟩, by simp [intOf]⟩
      · have HH := hide hw
        clear hw
        refine (within_no hi 0 1099511627776 _ (unhide HH)).mono ?_
        rintro e w1 ⟨rfl, rfl⟩
        go_wp2
        go_ret
        exact ⟨⟨false, rfl, by simp only [Bool.false_eq_true, false_iff]; exact fun hm => unhide HH (hm.2.1 hi (by simp))⟩, unhide F1⟩
    · have hix := index6_5 t ix lt cm hi ro
      go_wp2_with fail
      by_cases hw : 0 ≤ ro ∧ ro ≤ 1099511627776
      · have HA := hide (show ∀ x ∈ [t, ix, lt, cm, hi, ro].take 6, 0 ≤ x ∧ x ≤ 1099511627776 by
          intro x hx
          have h := unhide hall x
          simp at hx h
          rcases hx with rfl | rfl | rfl | rfl | rfl | rfl
          all_goals first | exact hw | exact h (by simp)
          )
        refine (within_yes ro 0 1099511627776 _ hw).mono ?_
        rintro e w1 ⟨rfl, rfl⟩
        clear hw
        go_wp2
        exact ⟨⟨6, by omega, rfl, by first | rfl | trivial, unhide HA⟩, by simp [intOf]⟩
      · have HH := hide hw
        clear hw
        refine (within_no ro 0 1099511627776 _ (unhide HH)).mono ?_
        rintro e w1 ⟨rfl, rfl⟩
        go_wp2
        go_ret
        exact ⟨⟨false, rfl, by simp only [Bool.false_eq_true, false_iff]; exact fun hm => unhide HH (hm.2.1 ro (by simp))⟩, unhide F1⟩
    · have hall6 := hide (show ∀ x ∈ [t, ix, lt, cm, hi, ro], 0 ≤ x ∧ x ≤ 1099511627776 by
        obtain rfl : j = 6 := by omega
        exact unhide hall)
      obtain ⟨c0, c1, c2, c3, c4, c5, c6, c7, c8, c9, c10, c11⟩ := twelve_cells (unhide X1)
      go_wp2_with fail
      go_loopw [35] (fun i wr => ∃ j : Nat, j ≤ en ∧ i = .int .i64 (j : Int) ∧ Hid (∀ e ∈ es.take j, MayE e.1 e.2.1 e.2.2.1 e.2.2.2.length) ∧ Hid (Below w.heap.size w wr)) (fun i _ => en - (intOf i).toNat)
      case atStart => exact ⟨0, by omega, rfl, by simp [Hid], unhide F1⟩
      case round =>
        obtain ⟨j, hj, rfl, hdone, F⟩ := hrel
        by_cases hjn : j < en
        · have hje : j < es.length := by have := unhide HN; omega
          obtain ⟨b, off, p, pc, rfl, p0, p1, p2, p3, p4, _⟩ := ((unhide HE).later (unhide F)).cell j hje
          have hmem := hide (List.getElem_mem hje)
          have htk := hide (List.take_succ_eq_append_getElem hje)
          generalize es[j] = ee at *
          obtain ⟨k', t', i', d'⟩ := ee
          simp only at p0 p1 p2 p3
          have hj0 : (0 : Int) ≤ (j : Int) := by omega
          have hj1 : (j : Int) < (en : Int) := by omega
          obtain ⟨q0, q1, q2, q3⟩ := entB_cells (heap_new wr (entB k' t' i' p d'.length pc))
          have b2 := hide (show Below wr.heap.size wr (wr.alloc (entB k' t' i' p d'.length pc)) from (Below.refl _ _).alloc (Nat.le_refl _) _)
          clear p4
          go_wp2_with fail
          generalize wr.alloc (entB k' t' i' p d'.length pc) = w3 at *
          by_cases hmay : MayE k' t' i' d'.length
          · have HM := hide (show ∀ e ∈ es.take (j + 1), MayE e.1 e.2.1 e.2.2.1 e.2.2.2.length by
              intro e he
              rw [unhide htk] at he
              rcases List.mem_append.1 he with h | h
              · exact unhide hdone e h
              · rw [List.mem_singleton] at h; subst h; exact hmay)
            refine (mayBe_yes k' t' i' p d'.length pc _ hmay).mono ?_
            rintro e w4 ⟨rfl, hb4⟩
            have F4 := hide ((unhide F).trans (((unhide b2).trans (hb4.mono (unhide b2).size)).mono (unhide F).size))
            clear hb4 hmay
            go_wp2
            exact ⟨⟨j + 1, by omega, by go_num, unhide HM, unhide F4⟩, by simp [intOf]; omega⟩
          · have HM := hide hmay
            refine (mayBe_no k' t' i' p d'.length pc _ hmay).mono ?_
            rintro e w4 ⟨rfl, hb4⟩
            have F4 := hide ((unhide F).trans (((unhide b2).trans (hb4.mono (unhide b2).size)).mono (unhide F).size))
            clear hb4 hmay
            go_wp2
            go_ret
            exact ⟨⟨false, rfl, by simp only [Bool.false_eq_true, false_iff]; exact fun hm => unhide HM (hm.2.2 _ (unhide hmem))⟩, unhide F4⟩
        · have hfull : es.take j = es := List.take_of_length_le (by have := unhide HN; omega)
          rw [hfull] at hdone
          clear hfull
          go_wp2
          go_ret
          exact ⟨⟨true, rfl, by simp only [true_iff]; exact ⟨⟨unhide H_h1, unhide H_h2, unhide H_h3⟩, unhide hall6, unhide hdone⟩⟩, unhide F⟩
/-- Are its lengths within the limits? -/
def FitsM (es : List EntI) (dm : Nat) : Prop := es.length ≤ 8 ∧ dm ≤ 32768 ∧ ∀ e ∈ es, e.2.2.2.length ≤ 2048
set_option maxRecDepth 20000 in
set_option maxHeartbeats 4000000 in
theorem msgFits_any (kd fr to t ix lt cm hi ro : Int) (bo : Bool) (ep : Option Addr) (en ec : Nat) (dp : Option Addr) (dm dc : Nat) (es : List EntI) (w : World) (hn : es.length = en) (hE : EntsAt w ep es) :
    Calls Try.prog 13 #[.agg #[.int .i64 kd, .int .i64 fr, .int .i64 to, .int .i64 t, .int .i64 ix, .int .i64 lt, .int .i64 cm, .int .i64 hi, .int .i64 ro, .bool bo, .slice ep en ec, .slice dp dm dc]] w fun e w' => (∃ b, e = .returned (.bool b) ∧ (b = true ↔ FitsM es dm)) ∧ Below w.heap.size w w' := by
  have x0 := heap_new w (.cells #[.int .i64 kd, .int .i64 fr, .int .i64 to, .int .i64 t, .int .i64 ix, .int .i64 lt, .int .i64 cm, .int .i64 hi, .int .i64 ro, .bool bo, .slice ep en ec, .slice dp dm dc] 26)
  obtain ⟨c0, c1, c2, c3, c4, c5, c6, c7, c8, c9, c10, c11⟩ := twelve_cells x0
  have BA := hide (show Below w.heap.size w (w.alloc (.cells #[.int .i64 kd, .int .i64 fr, .int .i64 to, .int .i64 t, .int .i64 ix, .int .i64 lt, .int .i64 cm, .int .i64 hi, .int .i64 ro, .bool bo, .slice ep en ec, .slice dp dm dc] 26)) from (Below.refl _ _).alloc (Nat.le_refl _) _)
  have HE := hide hE
  have HN := hide hn
  clear x0 hE hn
  go_enter Try.func13, Try.ntmps13
  by_cases h8 : en ≤ 8
  · by_cases hd : dm ≤ 32768
    · go_wp2_with fail
      generalize w.alloc (.cells #[.int .i64 kd, .int .i64 fr, .int .i64 to, .int .i64 t, .int .i64 ix, .int .i64 lt, .int .i64 cm, .int .i64 hi, .int .i64 ro, .bool bo, .slice ep en ec, .slice dp dm dc] 26) = W at *
      go_loopw [18] (fun i wr => ∃ j : Nat, j ≤ en ∧ i = .int .i64 (j : Int) ∧ Hid (∀ e ∈ es.take j, e.2.2.2.length ≤ 2048) ∧ Hid (Below w.heap.size w wr)) (fun i _ => en - (intOf i).toNat)
      case atStart => exact ⟨0, by omega, rfl, by simp [Hid], unhide BA⟩
      case round =>
        obtain ⟨j, hj, rfl, hdone, F⟩ := hrel
        by_cases hjn : j < en
        · have hje : j < es.length := by have := unhide HN; omega
          obtain ⟨b, off, p, pc, rfl, p0, p1, p2, p3, p4, _⟩ := ((unhide HE).later (unhide F)).cell j hje
          have hmem := hide (List.getElem_mem hje)
          have htk := hide (List.take_succ_eq_append_getElem hje)
          generalize es[j] = ee at *
          obtain ⟨k', t', i', d'⟩ := ee
          simp only at p0 p1 p2 p3
          have hj0 : (0 : Int) ≤ (j : Int) := by omega
          have hj1 : (j : Int) < (en : Int) := by omega
          obtain ⟨q0, q1, q2, q3⟩ := entB_cells (heap_new wr (entB k' t' i' p d'.length pc))
          have F4 := hide ((unhide F).alloc (unhide F).size (entB k' t' i' p d'.length pc))
          clear p4
          by_cases h48 : d'.length ≤ 2048
          · have HM := hide (show ∀ e ∈ es.take (j + 1), e.2.2.2.length ≤ 2048 by
              intro e he
              rw [unhide htk] at he
              rcases List.mem_append.1 he with h | h
              · exact unhide hdone e h
              · rw [List.mem_singleton] at h; subst h; exact h48)
            go_wp2
            exact ⟨⟨j + 1, by omega, by go_num, unhide HM, unhide F4⟩, by simp [intOf]; omega⟩
          · go_wp2
            go_ret
            exact ⟨⟨false, rfl, by simp only [Bool.false_eq_true, false_iff]; exact fun hm => h48 (hm.2.2 _ (unhide hmem))⟩, unhide F4⟩
        · have hfull : es.take j = es := List.take_of_length_le (by have := unhide HN; omega)
          rw [hfull] at hdone
          clear hfull
          go_wp2
          go_ret
          exact ⟨⟨true, rfl, by simp only [true_iff]; exact ⟨by have := unhide HN; omega, hd, unhide hdone⟩⟩, unhide F⟩
    · go_wp2
      go_ret
      exact ⟨⟨false, rfl, by simp only [Bool.false_eq_true, false_iff]; exact fun hm => hd hm.2.1⟩, unhide BA⟩
  · go_wp2
    go_ret
    exact ⟨.inl ⟨rfl, fun hm => h8 (by have := hm.1; have := unhide HN; omega)⟩, unhide BA⟩
set_option maxRecDepth 20000 in
set_option maxHeartbeats 2000000 in
theorem putMsg_bad (kd fr to t ix lt cm hi ro : Int) (bo : Bool) (ep : Option Addr) (en ec : Nat) (dp : Option Addr) (dm dc : Nat) (es : List EntI) (w : World) (hn : es.length = en) (hmax : en ≤ 9223372036854775807) (hE : EntsAt w ep es) (h : ¬ (MayM kd fr to t ix lt cm hi ro es ∧ FitsM es dm)) :
    Calls Try.prog 5 #[.agg #[.int .i64 kd, .int .i64 fr, .int .i64 to, .int .i64 t, .int .i64 ix, .int .i64 lt, .int .i64 cm, .int .i64 hi, .int .i64 ro, .bool bo, .slice ep en ec, .slice dp dm dc]] w fun e w' => (∃ x : Int, (x = 2 ∨ x = 6) ∧ e = .returned (.tuple #[.slice none 0 0, .int .i64 x])) ∧ Below w.heap.size w w' := by
  have x0 := heap_new w (.cells #[.int .i64 kd, .int .i64 fr, .int .i64 to, .int .i64 t, .int .i64 ix, .int .i64 lt, .int .i64 cm, .int .i64 hi, .int .i64 ro, .bool bo, .slice ep en ec, .slice dp dm dc] 26)
  obtain ⟨c0, c1, c2, c3, c4, c5, c6, c7, c8, c9, c10, c11⟩ := twelve_cells x0
  have X0 := hide x0
  have bA : Below w.heap.size w (w.alloc (.cells #[.int .i64 kd, .int .i64 fr, .int .i64 to, .int .i64 t, .int .i64 ix, .int .i64 lt, .int .i64 cm, .int .i64 hi, .int .i64 ro, .bool bo, .slice ep en ec, .slice dp dm dc] 26)) := (Below.refl _ _).alloc (Nat.le_refl _) _
  have BA := hide bA
  have HE := hide (hE.later bA)
  have HN := hide hn
  have HH := hide h
  clear x0 hE hn bA h
  go_enter Try.func5, Try.ntmps5
  go_wp2_with fail
  generalize w.alloc (.cells #[.int .i64 kd, .int .i64 fr, .int .i64 to, .int .i64 t, .int .i64 ix, .int .i64 lt, .int .i64 cm, .int .i64 hi, .int .i64 ro, .bool bo, .slice ep en ec, .slice dp dm dc] 26) = W at *
  refine (msgMayBe_any kd fr to t ix lt cm hi ro bo ep en ec dp dm dc es _ (unhide HN) hmax (unhide HE)).mono ?_
  rintro e W1 ⟨⟨b, rfl, hbm⟩, b1⟩
  have F1 := hide ((unhide BA).trans (b1.mono (unhide BA).size))
  cases b with
  | false =>
    clear hbm b1
    go_wp2
    go_ret2
    exact ⟨⟨2, .inl rfl, rfl⟩, unhide F1⟩
  | true =>
    have hmay := hide (hbm.1 rfl)
    obtain ⟨e0, e1, e2, e3, e4, e5, e6, e7, e8, e9, e10, e11⟩ := twelve_cells ((b1.block _ (Array.getElem?_eq_some_iff.1 (unhide X0)).1).trans (unhide X0))
    have E1 := hide ((unhide HE).later b1)
    clear hbm b1 c0 c1 c2 c3 c4 c5 c6 c7 c8 c9 c10 c11 BA
    go_wp2_with fail
    refine (msgFits_any kd fr to t ix lt cm hi ro bo ep en ec dp dm dc es _ (unhide HN) (unhide E1)).mono ?_
    rintro e W2 ⟨⟨b, rfl, hbf⟩, b2⟩
    have F2 := hide ((unhide F1).trans (b2.mono (unhide F1).size))
    cases b with
    | false =>
      clear hbf b2
      go_wp2
      go_ret2
      exact ⟨⟨6, .inr rfl, rfl⟩, unhide F2⟩
    | true => exact absurd ⟨unhide hmay, hbf.1 rfl⟩ (unhide HH)
/-- A message that may be put, in numbers. -/
theorem msg_nat {kd fr to t ix lt cm hi ro : Int} {es : List EntI} {d : List Nat} (h : MayM kd fr to t ix lt cm hi ro es) (hf : FitsM es d.length) :
    ∃ (kd' fr' to' t' ix' lt' cm' hi' ro' : Nat) (es' : List EntN), (kd = kd' ∧ fr = fr' ∧ to = to' ∧ t = t' ∧ ix = ix' ∧ lt = lt' ∧ cm = cm' ∧ hi = hi' ∧ ro = ro') ∧ es = es'.map toI ∧ MsgOk kd' fr' to' t' ix' lt' cm' hi' ro' es' d := by
  obtain ⟨⟨⟨a1, a2⟩, ⟨b1, b2⟩, ⟨c1, c2⟩⟩, hn, he⟩ := h
  obtain ⟨f1, f2, f3⟩ := hf
  have n1 := hn t (by simp)
  have n2 := hn ix (by simp)
  have n3 := hn lt (by simp)
  have n4 := hn cm (by simp)
  have n5 := hn hi (by simp)
  have n6 := hn ro (by simp)
  have hes : es = (es.map fun e => (e.1.toNat, e.2.1.toNat, e.2.2.1.toNat, e.2.2.2)).map toI := by
    rw [List.map_map]
    conv => lhs; rw [← List.map_id es]
    apply List.map_congr_left
    intro e hm
    obtain ⟨⟨h1, _⟩, ⟨h2, _⟩, ⟨h3, _⟩, _⟩ := he e hm
    obtain ⟨x, y, z, u⟩ := e
    simp only [toI, Function.comp, id] at h1 h2 h3 ⊢
    rw [Int.toNat_of_nonneg (by omega), Int.toNat_of_nonneg (by omega), Int.toNat_of_nonneg (by omega)]
  refine ⟨kd.toNat, fr.toNat, to.toNat, t.toNat, ix.toNat, lt.toNat, cm.toNat, hi.toNat, ro.toNat, es.map fun e => (e.1.toNat, e.2.1.toNat, e.2.2.1.toNat, e.2.2.2), ⟨by omega, by omega, by omega, by omega, by omega, by omega, by omega, by omega, by omega⟩, hes, ⟨by omega, by omega, by omega, by omega, by omega, by omega, by omega, by omega, by omega, ?_, by rw [List.length_map]; exact f1, f2⟩⟩
  intro e hm
  obtain ⟨e0, h0, rfl⟩ := List.mem_map.1 hm
  obtain ⟨⟨h1, h1'⟩, ⟨h2, h2'⟩, ⟨h3, h3'⟩, h4⟩ := he e0 h0
  have h5 := f3 e0 h0
  refine ⟨by simp only; omega, by simp only; omega, by simp only; omega, fun hk => ?_, h5⟩
  simp only at hk
  rcases h4 with h4 | h4
  · omega
  · exact List.eq_nil_of_length_eq_zero h4
end Go.Proofs.Ytilkginjppgcoaa
