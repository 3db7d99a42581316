/- The document's answers of layer 2: RightMsg. -/
import Derived.Test.YtcmdckhbejokhaaRre
import Derived.Test.YtcmdckhbejokhaaPutg
namespace Go.Proofs.Ytcmdckhbejokhaa
open Go.ChangeShapes Go.WideShapes Go.ChangeAt Go.RowKit

theorem ints_cell {w : World} {B : Nat} {xs : List Int} {T : TypeId} {fr : Nat × Nat} (h : w.heap[B]? = some (.cells (xs.map (Value.int .i64)).toArray T fr)) (j : Nat) (hj : j < xs.length) : w.cell? ⟨B, 0 + j, none⟩ = some (.int .i64 (xs[j])) := by
  rw [cell_of_row w B (0 + j) _ T fr h]
  simp [List.getElem?_eq_getElem hj]
/-- The error of a message, by the document. -/
def RightX (kd fr to t ix lt cm hi ro : Int) (es : List EntI) (dm : Nat) (x : Int) : Prop :=
  (¬ MayM kd fr to t ix lt cm hi ro es ∧ x = 2) ∨ (MayM kd fr to t ix lt cm hi ro es ∧ ¬ FitsM es dm ∧ x = 6) ∨ (MayM kd fr to t ix lt cm hi ro es ∧ FitsM es dm ∧ x = 0)
def LgOk (lg : Bool) (en dm : Nat) (l : List EntI) : Prop := lg = false ↔ (en ≤ 8 ∧ dm ≤ 32768) ∧ ∀ e ∈ l, e.2.2.2.length ≤ 2048
set_option maxRecDepth 20000 in
set_option maxHeartbeats 8000000 in
theorem rightMsg_calls (kd fr to t ix lt cm hi ro : Int) (bo : Bool) (ep : Option Addr) (en ec : Nat) (dp : Option Addr) (dm dc : Nat) (es : List EntI) (w : World) (hn : es.length = en) (hmax : en ≤ 4611686018427387904) (hE : EntsAt w ep es) :
    Calls Try.prog 19 #[.agg #[.int .i64 kd, .int .i64 fr, .int .i64 to, .int .i64 t, .int .i64 ix, .int .i64 lt, .int .i64 cm, .int .i64 hi, .int .i64 ro, .bool bo, .slice ep en ec, .slice dp dm dc]] w fun e w' => ∃ x : Int, e = .returned (.int .i64 x) ∧ RightX kd fr to t ix lt cm hi ro es dm x ∧ Below w.heap.size w w' := by
  have x0 := heap_new w (.cells #[.int .i64 kd, .int .i64 fr, .int .i64 to, .int .i64 t, .int .i64 ix, .int .i64 lt, .int .i64 cm, .int .i64 hi, .int .i64 ro, .bool bo, .slice ep en ec, .slice dp dm dc] 26)
  obtain ⟨c0, c1, c2, c3, c4, c5, c6, c7, c8, c9, c10, c11⟩ := twelve_cells x0
  have X0 := hide x0
  have BA := hide (show Below w.heap.size w (w.alloc (.cells #[.int .i64 kd, .int .i64 fr, .int .i64 to, .int .i64 t, .int .i64 ix, .int .i64 lt, .int .i64 cm, .int .i64 hi, .int .i64 ro, .bool bo, .slice ep en ec, .slice dp dm dc] 26)) from (Below.refl _ _).alloc (Nat.le_refl _) _)
  have HE := hide hE
  have HN := hide hn
  have hsz := hide (size_alloc w (.cells #[.int .i64 kd, .int .i64 fr, .int .i64 to, .int .i64 t, .int .i64 ix, .int .i64 lt, .int .i64 cm, .int .i64 hi, .int .i64 ro, .bool bo, .slice ep en ec, .slice dp dm dc] 26))
  clear x0 hE hn
  go_enter Try.func19, Try.ntmps19
  by_cases h1 : 1 ≤ kd
  rotate_left
  · go_wp2
    go_ret
    exact ⟨2, rfl, .inl ⟨fun hm => by have := hm.1.1.1; omega, rfl⟩, unhide BA⟩
  by_cases h2 : kd ≤ 7
  rotate_left
  · go_wp2
    go_ret
    exact ⟨2, rfl, .inl ⟨fun hm => by have := hm.1.1.2; omega, rfl⟩, unhide BA⟩
  by_cases h3 : 1 ≤ fr
  rotate_left
  · go_wp2
    go_ret
    exact ⟨2, rfl, .inl ⟨fun hm => by have := hm.1.2.1.1; omega, rfl⟩, unhide BA⟩
  by_cases h4 : fr ≤ 9
  rotate_left
  · go_wp2
    go_ret
    exact ⟨2, rfl, .inl ⟨fun hm => by have := hm.1.2.1.2; omega, rfl⟩, unhide BA⟩
  by_cases h5 : 1 ≤ to
  rotate_left
  · go_wp2
    go_ret
    exact ⟨2, rfl, .inl ⟨fun hm => by have := hm.1.2.2.1; omega, rfl⟩, unhide BA⟩
  by_cases h6 : to ≤ 9
  rotate_left
  · go_wp2
    go_ret
    exact ⟨2, rfl, .inl ⟨fun hm => by have := hm.1.2.2.2; omega, rfl⟩, unhide BA⟩
  have HH := hide (show (1 ≤ kd ∧ kd ≤ 7) ∧ (1 ≤ fr ∧ fr ≤ 9) ∧ (1 ≤ to ∧ to ≤ 9) from ⟨⟨h1, h2⟩, ⟨h3, h4⟩, ⟨h5, h6⟩⟩)
  go_wp2_with fail
  clear h1 h2 h3 h4 h5 h6 c0 c1 c2 c3 c4 c5 c6 c7 c8 c9 c10 c11
  generalize w.alloc (.cells #[.int .i64 kd, .int .i64 fr, .int .i64 to, .int .i64 t, .int .i64 ix, .int .i64 lt, .int .i64 cm, .int .i64 hi, .int .i64 ro, .bool bo, .slice ep en ec, .slice dp dm dc] 26) = W at *
  have BI := hide (show Below W.heap.size W (W.alloc (.cells #[.int .i64 t, .int .i64 ix, .int .i64 lt, .int .i64 cm, .int .i64 hi, .int .i64 ro] 3)) from (Below.refl _ _).alloc (Nat.le_refl _) _)
  have XI := hide (show (W.alloc (.cells #[.int .i64 t, .int .i64 ix, .int .i64 lt, .int .i64 cm, .int .i64 hi, .int .i64 ro] 3)).heap[w.heap.size + 1]? = some (.cells (([t, ix, lt, cm, hi, ro] : List Int).map (Value.int .i64)).toArray 3) by rw [← unhide hsz]; exact heap_new W _)
  have XM := hide ((unhide BI).block _ (Array.getElem?_eq_some_iff.1 (unhide X0)).1 |>.trans (unhide X0))
  have F1 := hide ((unhide BA).trans ((unhide BI).mono (unhide BA).size))
  generalize W.alloc (.cells #[.int .i64 t, .int .i64 ix, .int .i64 lt, .int .i64 cm, .int .i64 hi, .int .i64 ro] 3) = W1 at *
  go_loopw [4] (fun i wr => ∃ j : Nat, j ≤ 6 ∧ i = .int .i64 (j : Int) ∧ wr = W1 ∧ Hid (∀ x ∈ ([t, ix, lt, cm, hi, ro] : List Int).take j, 0 ≤ x ∧ x ≤ 1099511627776)) (fun i _ => 6 - (intOf i).toNat)
  case atStart => exact ⟨0, by omega, rfl, rfl, by simp [Hid]⟩
  case round =>
    obtain ⟨j, hj, rfl, rfl, hall⟩ := hrel
    by_cases hj6 : j < 6
    · have hjl : j < ([t, ix, lt, cm, hi, ro] : List Int).length := hj6
      have hc := ints_cell (unhide XI) j hjl
      rw [Nat.zero_add] at hc
      have htk := hide (List.take_succ_eq_append_getElem hjl)
      have hmem := hide (List.getElem_mem hjl)
      generalize ([t, ix, lt, cm, hi, ro] : List Int)[j] = y at *
      by_cases hy0 : 0 ≤ y
      · by_cases hy1 : y ≤ 1099511627776
        · have HA := hide (show ∀ x ∈ ([t, ix, lt, cm, hi, ro] : List Int).take (j + 1), 0 ≤ x ∧ x ≤ 1099511627776 by
            intro x hx
            rw [unhide htk] at hx
            rcases List.mem_append.1 hx with h | h
            · exact unhide hall x h
            · rw [List.mem_singleton] at h; subst h; exact ⟨hy0, hy1⟩)
          go_wp2
          exact ⟨⟨j + 1, by omega, by go_num, by first | rfl | trivial, unhide HA⟩, by simp [intOf]; omega⟩
        · go_wp2
          go_ret
          exact ⟨2, rfl, .inl ⟨fun hm => by have := (hm.2.1 y (unhide hmem)).2; omega, rfl⟩, unhide F1⟩
      · go_wp2
        go_ret
        exact ⟨2, rfl, .inl ⟨fun hm => by have := (hm.2.1 y (unhide hmem)).1; omega, rfl⟩, unhide F1⟩
    · have hall6 := hide (show ∀ x ∈ ([t, ix, lt, cm, hi, ro] : List Int), 0 ≤ x ∧ x ≤ 1099511627776 by
        obtain rfl : j = 6 := by omega
        exact unhide hall)
      obtain ⟨c0, c1, c2, c3, c4, c5, c6, c7, c8, c9, c10, c11⟩ := twelve_cells (unhide XM)
      by_cases h8 : en ≤ 8
      · by_cases hd : dm ≤ 32768
        · go_wp2_with fail
          go_loopw [5, 6] (fun v i wr => ∃ (j : Nat) (lg : Bool), j ≤ en ∧ v = .bool lg ∧ i = .int .i64 (j : Int) ∧ Hid (LgOk lg en dm (es.take j)) ∧ Hid (∀ e ∈ es.take j, MayE e.1 e.2.1 e.2.2.1 e.2.2.2.length) ∧ Hid (Below w.heap.size w wr) ∧ Hid (wr.heap[w.heap.size]? = some (.cells #[.int .i64 kd, .int .i64 fr, .int .i64 to, .int .i64 t, .int .i64 ix, .int .i64 lt, .int .i64 cm, .int .i64 hi, .int .i64 ro, .bool bo, .slice ep en ec, .slice dp dm dc] 26 (0, 0)))) (fun _ i _ => en - (intOf i).toNat)
          case atStart => exact ⟨0, false, by omega, by first | rfl | (simp; omega) | simp, rfl, (show LgOk false en dm (es.take 0) by unfold LgOk; simp; try omega), by simp [Hid], unhide F1, unhide XM⟩
          case round =>
            obtain ⟨j, lg, hj, rfl, rfl, hlg, hdone, F, M⟩ := hrel
            obtain ⟨g0, g1, g2, g3, g4, g5, g6, g7, g8, g9, g10, g11⟩ := twelve_cells (unhide M)
            by_cases hjn : j < en
            · have hje : j < es.length := by have := unhide HN; omega
              obtain ⟨b, off, p, pc, rfl, p0, p1, p2, p3, p4, _⟩ := ((unhide HE).later (unhide F)).cell j hje
              have hmem := hide (List.getElem_mem hje)
              have htk := hide (List.take_succ_eq_append_getElem hje)
              generalize es[j] = ee at *
              obtain ⟨k', t', i', d'⟩ := ee
              simp only at p0 p1 p2 p3
              have hj0 : (0 : Int) ≤ (j : Int) := by omega
              have hj1 : (j : Int) < (en : Int) := by omega
              clear p4
              go_wp2_with fail
              by_cases hmay : MayE k' t' i' d'.length
              · have HM := hide (show ∀ e ∈ es.take (j + 1), MayE e.1 e.2.1 e.2.2.1 e.2.2.2.length by
                  intro e he
                  rw [unhide htk] at he
                  rcases List.mem_append.1 he with h | h
                  · exact unhide hdone e h
                  · rw [List.mem_singleton] at h; subst h; exact hmay)
                by_cases h48 : d'.length ≤ 2048
                · have HL := hide (show LgOk lg en dm (es.take (j + 1)) by
                    unfold LgOk
                    rw [show (lg = false ↔ _) from unhide hlg, unhide htk]
                    refine and_congr_right fun _ => ⟨fun h e he => ?_, fun h e he => h e (List.mem_append_left _ he)⟩
                    rcases List.mem_append.1 he with h' | h'
                    · exact h e h'
                    · rw [List.mem_singleton] at h'; subst h'; exact h48)
                  refine (right_yes k' t' i' p d'.length pc _ hmay h48).mono ?_
                  rintro e w4 ⟨rfl, hb4⟩
                  have F4 := hide ((unhide F).trans (hb4.mono (unhide F).size))
                  have M4 := hide ((hb4.block _ (Array.getElem?_eq_some_iff.1 (unhide M)).1).trans (unhide M))
                  clear hb4 hmay
                  cases lg
                  all_goals
                    go_wp2
                    exact ⟨⟨j + 1, _, by omega, rfl, by go_num, unhide HL, unhide HM, unhide F4, unhide M4⟩, by simp [intOf]; omega⟩
                · have HL := hide (show LgOk true en dm (es.take (j + 1)) by
                    unfold LgOk
                    rw [unhide htk]
                    refine ⟨fun h => (by cases h), fun h => absurd (h.2 _ (List.mem_append_right _ (List.mem_singleton.2 rfl))) h48⟩)
                  refine (right_long k' t' i' p d'.length pc _ hmay (by omega)).mono ?_
                  rintro e w4 ⟨rfl, hb4⟩
                  have F4 := hide ((unhide F).trans (hb4.mono (unhide F).size))
                  have M4 := hide ((hb4.block _ (Array.getElem?_eq_some_iff.1 (unhide M)).1).trans (unhide M))
                  clear hb4 hmay
                  cases lg
                  all_goals
                    go_wp2
                    exact ⟨⟨j + 1, true, by omega, by first | rfl | simp, by go_num, unhide HL, unhide HM, unhide F4, unhide M4⟩, by simp [intOf]; omega⟩
              · have HM := hide hmay
                refine (right_no k' t' i' p d'.length pc _ hmay).mono ?_
                rintro e w4 ⟨rfl, hb4⟩
                have F4 := hide ((unhide F).trans (hb4.mono (unhide F).size))
                have M4 := hide ((hb4.block _ (Array.getElem?_eq_some_iff.1 (unhide M)).1).trans (unhide M))
                clear hb4 hmay
                go_wp2
                go_ret
                exact ⟨2, rfl, .inl ⟨fun hm => unhide HM (hm.2.2 _ (unhide hmem)), rfl⟩, unhide F4⟩
            · have hfull : es.take j = es := List.take_of_length_le (by have := unhide HN; omega)
              rw [hfull] at hdone hlg
              clear hfull
              have hmm := hide (show MayM kd fr to t ix lt cm hi ro es from ⟨unhide HH, unhide hall6, unhide hdone⟩)
              cases lg with
              | true =>
                go_wp2
                go_ret
                exact ⟨6, rfl, .inr (.inl ⟨unhide hmm, ⟨fun hf => by have h0 : true = false := (show (true = false ↔ _) from unhide hlg).2 ⟨⟨by have := unhide HN; have := hf.1; omega, hf.2.1⟩, hf.2.2⟩; exact absurd h0 (by decide), rfl⟩⟩), unhide F⟩
              | false =>
                go_wp2
                go_ret
                have hl0 := (show (false = false ↔ (en ≤ 8 ∧ dm ≤ 32768) ∧ ∀ e ∈ es, e.2.2.2.length ≤ 2048) from unhide hlg).1 rfl
                exact ⟨0, rfl, .inr (.inr ⟨unhide hmm, ⟨⟨by have := unhide HN; have := hl0.1.1; omega, hl0.1.2, hl0.2⟩, rfl⟩⟩), unhide F⟩
        · go_wp2_with fail
          go_loopw [5, 6] (fun v i wr => ∃ (j : Nat) (lg : Bool), j ≤ en ∧ v = .bool lg ∧ i = .int .i64 (j : Int) ∧ Hid (LgOk lg en dm (es.take j)) ∧ Hid (∀ e ∈ es.take j, MayE e.1 e.2.1 e.2.2.1 e.2.2.2.length) ∧ Hid (Below w.heap.size w wr) ∧ Hid (wr.heap[w.heap.size]? = some (.cells #[.int .i64 kd, .int .i64 fr, .int .i64 to, .int .i64 t, .int .i64 ix, .int .i64 lt, .int .i64 cm, .int .i64 hi, .int .i64 ro, .bool bo, .slice ep en ec, .slice dp dm dc] 26 (0, 0)))) (fun _ i _ => en - (intOf i).toNat)
          case atStart => exact ⟨0, true, by omega, by first | rfl | (simp; omega) | simp, rfl, (show LgOk true en dm (es.take 0) by unfold LgOk; simp; try omega), by simp [Hid], unhide F1, unhide XM⟩
          case round =>
            obtain ⟨j, lg, hj, rfl, rfl, hlg, hdone, F, M⟩ := hrel
            obtain ⟨g0, g1, g2, g3, g4, g5, g6, g7, g8, g9, g10, g11⟩ := twelve_cells (unhide M)
            by_cases hjn : j < en
            · have hje : j < es.length := by have := unhide HN; omega
              obtain ⟨b, off, p, pc, rfl, p0, p1, p2, p3, p4, _⟩ := ((unhide HE).later (unhide F)).cell j hje
              have hmem := hide (List.getElem_mem hje)
              have htk := hide (List.take_succ_eq_append_getElem hje)
              generalize es[j] = ee at *
              obtain ⟨k', t', i', d'⟩ := ee
              simp only at p0 p1 p2 p3
              have hj0 : (0 : Int) ≤ (j : Int) := by omega
              have hj1 : (j : Int) < (en : Int) := by omega
              clear p4
              go_wp2_with fail
              by_cases hmay : MayE k' t' i' d'.length
              · have HM := hide (show ∀ e ∈ es.take (j + 1), MayE e.1 e.2.1 e.2.2.1 e.2.2.2.length by
                  intro e he
                  rw [unhide htk] at he
                  rcases List.mem_append.1 he with h | h
                  · exact unhide hdone e h
                  · rw [List.mem_singleton] at h; subst h; exact hmay)
                by_cases h48 : d'.length ≤ 2048
                · have HL := hide (show LgOk lg en dm (es.take (j + 1)) by
                    unfold LgOk
                    rw [show (lg = false ↔ _) from unhide hlg, unhide htk]
                    refine and_congr_right fun _ => ⟨fun h e he => ?_, fun h e he => h e (List.mem_append_left _ he)⟩
                    rcases List.mem_append.1 he with h' | h'
                    · exact h e h'
                    · rw [List.mem_singleton] at h'; subst h'; exact h48)
                  refine (right_yes k' t' i' p d'.length pc _ hmay h48).mono ?_
                  rintro e w4 ⟨rfl, hb4⟩
                  have F4 := hide ((unhide F).trans (hb4.mono (unhide F).size))
                  have M4 := hide ((hb4.block _ (Array.getElem?_eq_some_iff.1 (unhide M)).1).trans (unhide M))
                  clear hb4 hmay
                  cases lg
                  all_goals
                    go_wp2
                    exact ⟨⟨j + 1, _, by omega, rfl, by go_num, unhide HL, unhide HM, unhide F4, unhide M4⟩, by simp [intOf]; omega⟩
                · have HL := hide (show LgOk true en dm (es.take (j + 1)) by
                    unfold LgOk
                    rw [unhide htk]
                    refine ⟨fun h => (by cases h), fun h => absurd (h.2 _ (List.mem_append_right _ (List.mem_singleton.2 rfl))) h48⟩)
                  refine (right_long k' t' i' p d'.length pc _ hmay (by omega)).mono ?_
                  rintro e w4 ⟨rfl, hb4⟩
                  have F4 := hide ((unhide F).trans (hb4.mono (unhide F).size))
                  have M4 := hide ((hb4.block _ (Array.getElem?_eq_some_iff.1 (unhide M)).1).trans (unhide M))
                  clear hb4 hmay
                  cases lg
                  all_goals
                    go_wp2
                    exact ⟨⟨j + 1, true, by omega, by first | rfl | simp, by go_num, unhide HL, unhide HM, unhide F4, unhide M4⟩, by simp [intOf]; omega⟩
              · have HM := hide hmay
                refine (right_no k' t' i' p d'.length pc _ hmay).mono ?_
                rintro e w4 ⟨rfl, hb4⟩
                have F4 := hide ((unhide F).trans (hb4.mono (unhide F).size))
                have M4 := hide ((hb4.block _ (Array.getElem?_eq_some_iff.1 (unhide M)).1).trans (unhide M))
                clear hb4 hmay
                go_wp2
                go_ret
                exact ⟨2, rfl, .inl ⟨fun hm => unhide HM (hm.2.2 _ (unhide hmem)), rfl⟩, unhide F4⟩
            · have hfull : es.take j = es := List.take_of_length_le (by have := unhide HN; omega)
              rw [hfull] at hdone hlg
              clear hfull
              have hmm := hide (show MayM kd fr to t ix lt cm hi ro es from ⟨unhide HH, unhide hall6, unhide hdone⟩)
              cases lg with
              | true =>
                go_wp2
                go_ret
                exact ⟨6, rfl, .inr (.inl ⟨unhide hmm, ⟨fun hf => by have h0 : true = false := (show (true = false ↔ _) from unhide hlg).2 ⟨⟨by have := unhide HN; have := hf.1; omega, hf.2.1⟩, hf.2.2⟩; exact absurd h0 (by decide), rfl⟩⟩), unhide F⟩
              | false =>
                go_wp2
                go_ret
                have hl0 := (show (false = false ↔ (en ≤ 8 ∧ dm ≤ 32768) ∧ ∀ e ∈ es, e.2.2.2.length ≤ 2048) from unhide hlg).1 rfl
                exact ⟨0, rfl, .inr (.inr ⟨unhide hmm, ⟨⟨by have := unhide HN; have := hl0.1.1; omega, hl0.1.2, hl0.2⟩, rfl⟩⟩), unhide F⟩
      · go_wp2_with fail
        go_loopw [5, 6] (fun v i wr => ∃ (j : Nat) (lg : Bool), j ≤ en ∧ v = .bool lg ∧ i = .int .i64 (j : Int) ∧ Hid (LgOk lg en dm (es.take j)) ∧ Hid (∀ e ∈ es.take j, MayE e.1 e.2.1 e.2.2.1 e.2.2.2.length) ∧ Hid (Below w.heap.size w wr) ∧ Hid (wr.heap[w.heap.size]? = some (.cells #[.int .i64 kd, .int .i64 fr, .int .i64 to, .int .i64 t, .int .i64 ix, .int .i64 lt, .int .i64 cm, .int .i64 hi, .int .i64 ro, .bool bo, .slice ep en ec, .slice dp dm dc] 26 (0, 0)))) (fun _ i _ => en - (intOf i).toNat)
        case atStart => exact ⟨0, true, by omega, by first | rfl | (simp; omega) | simp, rfl, (show LgOk true en dm (es.take 0) by unfold LgOk; simp; try omega), by simp [Hid], unhide F1, unhide XM⟩
        case round =>
          obtain ⟨j, lg, hj, rfl, rfl, hlg, hdone, F, M⟩ := hrel
          obtain ⟨g0, g1, g2, g3, g4, g5, g6, g7, g8, g9, g10, g11⟩ := twelve_cells (unhide M)
          by_cases hjn : j < en
          · have hje : j < es.length := by have := unhide HN; omega
            obtain ⟨b, off, p, pc, rfl, p0, p1, p2, p3, p4, _⟩ := ((unhide HE).later (unhide F)).cell j hje
            have hmem := hide (List.getElem_mem hje)
            have htk := hide (List.take_succ_eq_append_getElem hje)
            generalize es[j] = ee at *
            obtain ⟨k', t', i', d'⟩ := ee
            simp only at p0 p1 p2 p3
            have hj0 : (0 : Int) ≤ (j : Int) := by omega
            have hj1 : (j : Int) < (en : Int) := by omega
            clear p4
            go_wp2_with fail
            by_cases hmay : MayE k' t' i' d'.length
            · have HM := hide (show ∀ e ∈ es.take (j + 1), MayE e.1 e.2.1 e.2.2.1 e.2.2.2.length by
                intro e he
                rw [unhide htk] at he
                rcases List.mem_append.1 he with h | h
                · exact unhide hdone e h
                · rw [List.mem_singleton] at h; subst h; exact hmay)
              by_cases h48 : d'.length ≤ 2048
              · have HL := hide (show LgOk lg en dm (es.take (j + 1)) by
                  unfold LgOk
                  rw [show (lg = false ↔ _) from unhide hlg, unhide htk]
                  refine and_congr_right fun _ => ⟨fun h e he => ?_, fun h e he => h e (List.mem_append_left _ he)⟩
                  rcases List.mem_append.1 he with h' | h'
                  · exact h e h'
                  · rw [List.mem_singleton] at h'; subst h'; exact h48)
                refine (right_yes k' t' i' p d'.length pc _ hmay h48).mono ?_
                rintro e w4 ⟨rfl, hb4⟩
                have F4 := hide ((unhide F).trans (hb4.mono (unhide F).size))
                have M4 := hide ((hb4.block _ (Array.getElem?_eq_some_iff.1 (unhide M)).1).trans (unhide M))
                clear hb4 hmay
                cases lg
                all_goals
                  go_wp2
                  exact ⟨⟨j + 1, _, by omega, rfl, by go_num, unhide HL, unhide HM, unhide F4, unhide M4⟩, by simp [intOf]; omega⟩
              · have HL := hide (show LgOk true en dm (es.take (j + 1)) by
                  unfold LgOk
                  rw [unhide htk]
                  refine ⟨fun h => (by cases h), fun h => absurd (h.2 _ (List.mem_append_right _ (List.mem_singleton.2 rfl))) h48⟩)
                refine (right_long k' t' i' p d'.length pc _ hmay (by omega)).mono ?_
                rintro e w4 ⟨rfl, hb4⟩
                have F4 := hide ((unhide F).trans (hb4.mono (unhide F).size))
                have M4 := hide ((hb4.block _ (Array.getElem?_eq_some_iff.1 (unhide M)).1).trans (unhide M))
                clear hb4 hmay
                cases lg
                all_goals
                  go_wp2
                  exact ⟨⟨j + 1, true, by omega, by first | rfl | simp, by go_num, unhide HL, unhide HM, unhide F4, unhide M4⟩, by simp [intOf]; omega⟩
            · have HM := hide hmay
              refine (right_no k' t' i' p d'.length pc _ hmay).mono ?_
              rintro e w4 ⟨rfl, hb4⟩
              have F4 := hide ((unhide F).trans (hb4.mono (unhide F).size))
              have M4 := hide ((hb4.block _ (Array.getElem?_eq_some_iff.1 (unhide M)).1).trans (unhide M))
              clear hb4 hmay
              go_wp2
              go_ret
              exact ⟨2, rfl, .inl ⟨fun hm => unhide HM (hm.2.2 _ (unhide hmem)), rfl⟩, unhide F4⟩
          · have hfull : es.take j = es := List.take_of_length_le (by have := unhide HN; omega)
            rw [hfull] at hdone hlg
            clear hfull
            have hmm := hide (show MayM kd fr to t ix lt cm hi ro es from ⟨unhide HH, unhide hall6, unhide hdone⟩)
            cases lg with
            | true =>
              go_wp2
              go_ret
              exact ⟨6, rfl, .inr (.inl ⟨unhide hmm, ⟨fun hf => by have h0 : true = false := (show (true = false ↔ _) from unhide hlg).2 ⟨⟨by have := unhide HN; have := hf.1; omega, hf.2.1⟩, hf.2.2⟩; exact absurd h0 (by decide), rfl⟩⟩), unhide F⟩
            | false =>
              go_wp2
              go_ret
              have hl0 := (show (false = false ↔ (en ≤ 8 ∧ dm ≤ 32768) ∧ ∀ e ∈ es, e.2.2.2.length ≤ 2048) from unhide hlg).1 rfl
              exact ⟨0, rfl, .inr (.inr ⟨unhide hmm, ⟨⟨by have := unhide HN; have := hl0.1.1; omega, hl0.1.2, hl0.2⟩, rfl⟩⟩), unhide F⟩
end Go.Proofs.Ytcmdckhbejokhaa
