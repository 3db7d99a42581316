/- Entries read in memory; the contracts of tollgateref02.SameEntries, SameMsg. -/
import Derived.Test.YtijcpmbfhfppmaaGreatDoorMents
import Derived.Test.YtijcpmbfhfppmaaGreatDoorSame
import Derived.Deep.RegionHeld3
namespace Go.Proofs.YtijcpmbfhfppmaaGreatDoor
open Go.ChangeShapes Go.WideShapes Go.ChangeAt Go.RowKit

/-- An entry with its fields as they come. -/
abbrev EntI := Int × Int × Int × List Nat
/-- The entries of a slice as they lie in memory. -/
structure EntsAt (w : World) (a : Option Addr) (es : List EntI) : Prop where
  cell : ∀ i (hi : i < es.length), ∃ b off dp dc, a = some ⟨b, off, none⟩ ∧ w.cell? ⟨b, off + i * 4, none⟩ = some (.int .i64 (es[i]).1) ∧ w.cell? ⟨b, off + i * 4 + 1, none⟩ = some (.int .i64 (es[i]).2.1) ∧
    w.cell? ⟨b, off + i * 4 + 2, none⟩ = some (.int .i64 (es[i]).2.2.1) ∧ w.cell? ⟨b, off + i * 4 + 3, none⟩ = some (.slice dp (es[i]).2.2.2.length dc) ∧ BytesAt w dp (es[i]).2.2.2 ∧ (dp = none → dc = 0)
theorem EntsAt.later {w w' : World} {a : Option Addr} {es : List EntI} (h : EntsAt w a es) (hb : Below w.heap.size w w') : EntsAt w' a es :=
  ⟨fun i hi => by
    obtain ⟨b, off, dp, dc, h0, h1, h2, h3, h4, h5, h6⟩ := h.cell i hi
    exact ⟨b, off, dp, dc, h0, cell_later hb h1, cell_later hb h2, cell_later hb h3, cell_later hb h4, h5.later hb, h6⟩⟩
def toI (e : EntN) : EntI := (e.1, e.2.1, e.2.2.1, e.2.2.2)
theorem rowsV_get : ∀ (es : List EntN) (hs : List (Option Addr × Nat)) (i f : Nat) (hi : i < es.length) (hh : i < hs.length) (_ : f < 4), (rowsV es hs)[i * 4 + f]? = (entRow es[i] hs[i])[f]?
  | [], _, i, _, hi, _, _ => by simp at hi
  | _ :: _, [], _, _, _, hh, _ => by simp at hh
  | e :: es, h :: hs, 0, f, _, _, hf => by
    simp only [rowsV, List.zip_cons_cons, List.flatMap_cons, Nat.zero_mul, Nat.zero_add, List.getElem_cons_zero]
    rw [List.getElem?_append_left (by simp only [entRow, List.length_cons, List.length_nil]; omega)]
  | e :: es, h :: hs, i + 1, f, hi, hh, hf => by
    have ih := rowsV_get es hs i f (by simpa using hi) (by simpa using hh) hf
    simp only [rowsV, List.zip_cons_cons, List.flatMap_cons, List.getElem_cons_succ] at ih ⊢
    rw [List.getElem?_append_right (by simp only [entRow, List.length_cons, List.length_nil]; omega)]
    have e4 : (i + 1) * 4 + f - (entRow e h).length = i * 4 + f := by simp only [entRow, List.length_cons, List.length_nil]; omega
    rw [e4]
    exact ih
theorem OwnEs.ents {base : Nat} {w : World} {sp : Option Addr} {c : Nat} {es : List EntN} (h : OwnEs base w sp c es) : EntsAt w sp (es.map toI) := by
  obtain ⟨hs, hl, hrow, hdat⟩ := h.ex
  refine ⟨fun i hi => ?_⟩
  rw [List.length_map] at hi
  rcases hrow.2 with ⟨_, h0⟩ | ⟨g, cap, cur, hv, _, hg, _, _, _, ht⟩
  · omega
  · simp only [Value.slice.injEq] at hv
    obtain ⟨rfl, _, _⟩ := hv
    have hih : i < hs.length := by omega
    have key : ∀ f, f < 4 → w.cell? ⟨g, 0 + i * 4 + f, none⟩ = (entRow es[i] hs[i])[f]? := by
      intro f hf
      rw [cell_of_row w g _ cur _ _ hg, Nat.zero_add]
      have e := rowsV_get es hs i f hi hih hf
      rw [← ht, List.getElem?_take, if_pos (by omega)] at e
      rw [← Array.getElem?_toList, e]
    have hd := hdat i hi
    have e1 : hs.getD i (none, 0) = hs[i] := by rw [List.getD_eq_getElem?_getD, List.getElem?_eq_getElem hih]; rfl
    have e2 : es.getD i default = es[i] := by rw [List.getD_eq_getElem?_getD, List.getElem?_eq_getElem hi]; rfl
    rw [e1, e2] at hd
    refine ⟨g, 0, hs[i].1, hs[i].2, rfl, ?_, ?_, ?_, ?_, ?_, ?_⟩
    · have := key 0 (by omega); simpa [entRow, toI] using this
    · have := key 1 (by omega); simpa [entRow, toI] using this
    · have := key 2 (by omega); simpa [entRow, toI] using this
    · have := key 3 (by omega); simpa [entRow, toI] using this
    · simpa [toI] using hd.bytes
    · intro e
      rcases hd.owns.2 with ⟨hv, _⟩ | ⟨g', cap', cur', hv, _⟩
      · simp only [Value.slice.injEq] at hv; exact hv.2.2
      · simp only [Value.slice.injEq] at hv; rw [hv.1] at e; cases e
set_option maxRecDepth 20000 in
set_option maxHeartbeats 2000000 in
theorem sameEntries_yes (a a' : Option Addr) (n c c' : Nat) (es : List EntI) (w : World) (hn : es.length = n) (hlen : n ≤ 4611686018427387904) (hb : EntsAt w a es) (hb' : EntsAt w a' es) :
    Calls Tryz.prog 21 #[.slice a n c, .slice a' n c'] w fun e w' => e = .returned (.bool true) ∧ Below w.heap.size w w' := by
  have HB := hide hb
  have HB' := hide hb'
  have HN := hide hn
  clear hb hb' hn
  go_enter Tryz.func21, Tryz.ntmps21
  go_wp2_with fail
  go_loopw [5] (fun i wr => ∃ j : Nat, j ≤ n ∧ i = .int .i64 (j : Int) ∧ Hid (Below w.heap.size w wr)) (fun i _ => n - (intOf i).toNat)
  case atStart => exact ⟨0, by omega, rfl, Below.refl _ _⟩
  case round =>
    obtain ⟨j, hj, rfl, F⟩ := hrel
    by_cases hjn : j < n
    · have hje : j < es.length := by have := unhide HN; omega
      obtain ⟨b, off, dp, dc, rfl, p0, p1, p2, p3, p4, _⟩ := ((unhide HB).later (unhide F)).cell j hje
      obtain ⟨b', off', dp', dc', rfl, q0, q1, q2, q3, q4, _⟩ := ((unhide HB').later (unhide F)).cell j hje
      generalize es[j] = e at *
      obtain ⟨k, t, i, d⟩ := e
      have P4 := hide p4
      have Q4 := hide q4
      have hj0 : (0 : Int) ≤ (j : Int) := by omega
      have hj1 : (j : Int) < (n : Int) := by omega
      clear p4 q4
      simp only at p0 p1 p2 p3 q0 q1 q2 q3
      go_wp2_with fail
      go_region_held3 (fun w' => w'.cell? ⟨b, off + j * 4, none⟩ = some (.int .i64 k) ∧ w'.cell? ⟨b, off + j * 4 + 1, none⟩ = some (.int .i64 t) ∧ w'.cell? ⟨b, off + j * 4 + 2, none⟩ = some (.int .i64 i) ∧ w'.cell? ⟨b, off + j * 4 + 3, none⟩ = some (.slice dp d.length dc) ∧
          w'.cell? ⟨b', off' + j * 4, none⟩ = some (.int .i64 k) ∧ w'.cell? ⟨b', off' + j * 4 + 1, none⟩ = some (.int .i64 t) ∧ w'.cell? ⟨b', off' + j * 4 + 2, none⟩ = some (.int .i64 i) ∧ w'.cell? ⟨b', off' + j * 4 + 3, none⟩ = some (.slice dp' d.length dc'))
        (first
          | exact ⟨p0, p1, p2, p3, q0, q1, q2, q3⟩
          | exact ⟨cell_later hb1 p0, cell_later hb1 p1, cell_later hb1 p2, cell_later hb1 p3, cell_later hb1 q0, cell_later hb1 q1, cell_later hb1 q2, cell_later hb1 q3⟩)
        (first
          | (go_at_call 59; refine (sameEntry_yes k t i dp dp' d.length d.length dc dc' d _ rfl rfl (by exact (unhide P4).drew) (by exact (unhide Q4).drew)).mono ?_; rintro e W1 ⟨rfl, hb1⟩))
      have F1 := hide ((unhide F).drew.trans (hb1.mono (unhide F).size))
      clear hb1
      go_wp2
      exact ⟨⟨j + 1, by omega, by go_num, unhide F1⟩, by simp [intOf]; omega⟩
    · go_wp2
      go_ret
      exact ⟨rfl, unhide F⟩
end Go.Proofs.YtijcpmbfhfppmaaGreatDoor
