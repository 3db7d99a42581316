/- Logs: is a deed small enough to be played? -/
import Derived.Test.YtijcpmbfhfppmaaGreatDoorWda
namespace Go.Proofs.YtijcpmbfhfppmaaGreatDoor
open Go.ChangeShapes Go.WideShapes Go.ChangeAt Go.RowKit
set_option linter.unusedVariables false

/-- How short ends. -/
def ShEnd (e : Wd) (w : World) (r : Ending) (w' : World) : Prop := ∃ x : Bool, r = .returned (.bool x) ∧ (x = true → sumN e.es ≤ 6000 ∧ e.keep.length ≤ 50) ∧ Below w.heap.size w w'
set_option maxRecDepth 20000 in
set_option maxHeartbeats 8000000 in
theorem short6_calls (e : Wd) (h : WdH) (w : World) (hA : WdAt w e h) : Calls Tryz.prog 15 #[.agg (wdRow e h)] w (ShEnd e w) := by
  unfold wdRow
  have U1 := hide (show Below w.heap.size w (w.alloc (.cells #[.int .i64 e.kind, .slice h.ep e.es.length h.ec, .int .i64 e.ht, .int .i64 e.hv, .int .i64 e.mi, .int .i64 e.mt, .slice h.kp e.keep.length h.kc] 34)) from (Below.refl _ _).alloc (Nat.le_refl _) _)
  have X1 := hide (heap_new w (.cells #[.int .i64 e.kind, .slice h.ep e.es.length h.ec, .int .i64 e.ht, .int .i64 e.hv, .int .i64 e.mi, .int .i64 e.mt, .slice h.kp e.keep.length h.kc] 34))
  have EA := hide (hA.en.later (unhide U1))
  have hse := hA.se
  have hsk := hA.sk
  simp only [maxLen] at hse hsk
  have FE := hide (show ∀ (x : Bool) W, (x = true → sumN e.es ≤ 6000 ∧ e.keep.length ≤ 50) → Below w.heap.size w W → ShEnd e w (.returned (.bool x)) W from fun x W h u => ⟨x, rfl, h, u⟩)
  have EQ := hide (show e.es = e.es from rfl)
  obtain ⟨es, hes⟩ : ∃ es, e.es = es := ⟨_, rfl⟩
  rw [hes] at EA FE hse U1 X1 ⊢
  generalize hlen : es.length = m at *
  have HL := hide hlen
  clear hA hes hlen EQ
  go_enter Tryz.func15, Tryz.ntmps15
  go_wp2_with fail
  generalize w.alloc _ = W1 at *
  go_loopw [3, 4] (fun v q wr => ∃ (j : Nat), j ≤ m ∧ q = .int .i64 (j : Int) ∧ v = .int .i64 ((sumN (es.take j) : Nat) : Int) ∧ Hid (sumN (es.take j) ≤ 12020) ∧ Hid (Below W1.heap.size W1 wr)) (fun _ q _ => m - (intOf q).toNat)
  case atStart => exact ⟨0, by omega, rfl, rfl, hide (by simp [sumN]), hide (Below.refl _ _)⟩
  case round =>
    obtain ⟨j, hj, rfl, rfl, HS, F⟩ := hrel
    have X2 := hide (later_block (unhide F) (unhide X1))
    have x1 : wr.cell? ⟨w.heap.size, 1, none⟩ = some (.slice h.ep m h.ec) := box_cell (unhide X2) 1 _ rfl
    have x6 : wr.cell? ⟨w.heap.size, 6, none⟩ = some (.slice h.kp e.keep.length h.kc) := box_cell (unhide X2) 6 _ rfl
    have U2 := hide ((unhide U1).trans ((unhide F).mono (unhide U1).size))
    by_cases hjm : j < m
    · have y0 : (0 : Int) ≤ (j : Int) := by omega
      have y1 : (j : Int) < (m : Int) := by omega
      have hjl : j < es.length := by rw [unhide HL]; exact hjm
      by_cases hs : sumN (es.take j) ≤ 6000
      · have ys : ((sumN (es.take j) : Nat) : Int) ≤ 6000 := by omega
        obtain ⟨b, off, dp, dc, hep, p0, p1, p2, p3, p4, _⟩ := ((unhide EA).later (unhide F)).cell j hjl
        have ST := sumN_take es j hjl
        generalize hsj : sumN (es.take j) = sj at *
        generalize es[j].2.2.2.length = dl at *
        have SE := hide ST
        have HS1 := hide (show sumN (es.take (j + 1)) ≤ 12020 by omega)
        rw [hep] at x1
        have hmn : (min (dl : Int) 6000) = ((min dl 6000 : Nat) : Int) := by omega
        clear ST hsj
        go_wp2
        exact ⟨⟨j + 1, by omega, by go_num, by rw [unhide SE, Value.int.injEq]; exact ⟨rfl, by omega⟩, HS1, F⟩, by simp [intOf]; omega⟩
      · have ys : ¬ ((sumN (es.take j) : Nat) : Int) ≤ 6000 := by omega
        have FF := hide (unhide FE false wr (fun h => by cases h) (unhide U2))
        generalize sumN (es.take j) = sj at *
        go_wp2
        go_ret
        exact unhide FF
    · have hjj : ¬ (j : Int) < (m : Int) := by omega
      have EE := hide (show sumN (es.take j) = sumN es by rw [List.take_of_length_le (by rw [unhide HL]; omega)])
      generalize sumN (es.take j) = sj at *
      by_cases hs : sj ≤ 6000
      · have ys : (sj : Int) ≤ 6000 := by omega
        by_cases hk : e.keep.length ≤ 50
        · have yk : (e.keep.length : Int) ≤ 50 := by omega
          have FF := hide (unhide FE true wr (fun _ => ⟨by rw [← unhide EE]; exact hs, hk⟩) (unhide U2))
          go_wp2
          go_ret
          exact unhide FF
        · have yk : ¬ (e.keep.length : Int) ≤ 50 := by omega
          have FF := hide (unhide FE false wr (fun h => by cases h) (unhide U2))
          go_wp2
          go_ret
          exact unhide FF
      · have ys : ¬ (sj : Int) ≤ 6000 := by omega
        have FF := hide (unhide FE false wr (fun h => by cases h) (unhide U2))
        go_wp2
        go_ret
        exact unhide FF
end Go.Proofs.YtijcpmbfhfppmaaGreatDoor
