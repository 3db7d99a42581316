/- Logs: records of marks and hard states. -/
import Derived.Test.YtijcpmbfhfppmaaGreatDoorWr1
import Derived.Test.YtijcpmbfhfppmaaGreatDoorTnum
import Derived.Test.YtijcpmbfhfppmaaGreatDoorWb0
namespace Go.Proofs.YtijcpmbfhfppmaaGreatDoor
open Go.ChangeShapes Go.WideShapes Go.ChangeAt Go.RowKit
set_option linter.unusedVariables false

def markB (i t : Nat) : List Nat := recB 1 (numB i ++ numB t)
def hardB (t v : Nat) : List Nat := recB 2 (numB t ++ numB v)
set_option maxRecDepth 20000 in
set_option maxHeartbeats 4000000 in
theorem markRecord_calls (i t : Nat) (w : World) (hi : i ≤ 1099511627776) (ht : t ≤ 1099511627776) :
    Calls Tryz.prog 131 #[.agg #[.int .i64 (i : Int), .int .i64 (t : Int)]] w fun e w' => ∃ g m, e = .returned (.slice (some ⟨g, 0, none⟩) m m) ∧ Hid ((markB i t).length = m) ∧ OwnB w.heap.size w' (some ⟨g, 0, none⟩) m (markB i t) ∧ Below w.heap.size w w' := by
  have b1 : Below w.heap.size w (w.alloc (.cells #[.int .i64 (i : Int), .int .i64 (t : Int)] 31)) := (Below.refl _ _).alloc (Nat.le_refl _) _
  have X1 := heap_new w (.cells #[.int .i64 (i : Int), .int .i64 (t : Int)] 31)
  obtain ⟨c0, c1, _, _⟩ := pair_cells X1
  have B1 := hide b1
  have XX := hide X1
  have hli := numB_six i hi
  have hlt := numB_six t ht
  have N1 := hide (fun W => number_yes i W hi)
  have N2 := hide (fun W => number_yes t W ht)
  clear b1 X1 hi ht
  go_enter Tryz.func131, Tryz.ntmps131
  go_wp2_with fail
  clear c0 c1
  generalize w.alloc _ = W1 at *
  go_at_call 160
  refine (unhide N1 _).mono ?_
  rintro e W2 ⟨sp2, n2, k2, rfl, hn2, o2, b2⟩
  have O2 := hide (o2.mono (unhide B1).size)
  have B2 := hide ((unhide B1).trans (b2.mono (unhide B1).size))
  have XX := hide (later_block b2 (unhide XX))
  obtain ⟨c0, c1, _, _⟩ := pair_cells (unhide XX)
  clear b2 o2
  go_wp2_with fail
  clear c0 c1
  go_at_call 160
  refine (unhide N2 _).mono ?_
  rintro e W3 ⟨sp3, n3, k3, rfl, hn3, o3, b3⟩
  have O2 := hide ((unhide O2).later b3)
  have Y3 := hide o3.bytes
  have Z3 := hide (show sp3 = none → k3 = 0 from (show Bx W2.heap.size W3 sp3 k3 (numB t) from o3.toBx).nil0)
  have B3 := hide ((unhide B2).trans (b3.mono (unhide B2).size))
  clear b3 o3
  have HS := hide (show (numB i).length + n3 ≤ 140737488355328 by rw [← unhide hn3]; omega)
  go_wp2_with (at_builtin; refine wpList_append8 rfl (.tmp 19) (.tmp 20) rfl w.heap.size sp2 n2 k2 (numB i) rfl (unhide hn2) (by exact unhide O2) sp3 n3 k3 rfl (numB t) (unhide hn3) (by exact unhide Y3) (unhide Z3) (unhide HS) (by exact (unhide B3).size) ?_; intro sp4 n4 c4 W4 hn4 ho4 hg4 hb4)
  have B4 := hide ((unhide B3).trans hb4)
  have FC := hide (framed_calls 1 sp4 n4 c4 (numB i ++ numB t) W4 (by omega) (unhide hn4) (by exact ho4.bytes) (show sp4 = none → c4 = 0 from (show Bx w.heap.size W4 sp4 c4 (numB i ++ numB t) from ho4.toBx).nil0) (by rw [← unhide hn4, List.length_append]; omega))
  clear ho4 hg4 hb4
  go_wp2_with fail
  go_at_call 104
  refine (unhide FC).mono ?_
  rintro e W5 ⟨g, m, rfl, hm, o5, b5⟩
  have O5 := hide (o5.mono (unhide B4).size)
  have B5 := hide ((unhide B4).trans (b5.mono (unhide B4).size))
  clear o5 b5
  go_wp2
  go_ret
  exact ⟨g, m, rfl, hm, unhide O5, unhide B5⟩
set_option maxRecDepth 20000 in
set_option maxHeartbeats 4000000 in
theorem hardRecord_yes (t v : Nat) (w : World) (ht : t ≤ 1099511627776) (hv : v ≤ 9) :
    Calls Tryz.prog 69 #[.agg #[.int .i64 (t : Int), .int .i64 (v : Int)]] w fun e w' => ∃ g m, e = .returned (.tuple #[.slice (some ⟨g, 0, none⟩) m m, .int .i64 0]) ∧ Hid ((hardB t v).length = m) ∧ OwnB w.heap.size w' (some ⟨g, 0, none⟩) m (hardB t v) ∧ Below w.heap.size w w' := by
  have b1 : Below w.heap.size w (w.alloc (.cells #[.int .i64 (t : Int), .int .i64 (v : Int)] 29)) := (Below.refl _ _).alloc (Nat.le_refl _) _
  have X1 := heap_new w (.cells #[.int .i64 (t : Int), .int .i64 (v : Int)] 29)
  obtain ⟨c0, c1, _, _⟩ := pair_cells X1
  have B1 := hide b1
  have hlt := numB_six t ht
  have hlv := numB_six v (by omega)
  have N1 := hide (fun W => putHard_yes t v W ht hv)
  clear b1 X1 ht hv
  go_enter Tryz.func69, Tryz.ntmps69
  go_wp2_with fail
  clear c0 c1
  generalize w.alloc _ = W1 at *
  go_at_call 106
  refine (unhide N1 _).mono ?_
  rintro e W2 ⟨sp2, n2, k2, rfl, hn2, o2, b2⟩
  have B2 := hide ((unhide B1).trans (b2.mono (unhide B1).size))
  have FC := hide (framed_calls 2 sp2 n2 k2 (numB t ++ numB v) W2 (by omega) (unhide hn2) (by exact o2.bytes) (show sp2 = none → k2 = 0 from (show Bx W1.heap.size W2 sp2 k2 (numB t ++ numB v) from o2.toBx).nil0) (by rw [← unhide hn2, List.length_append]; omega))
  clear b2 o2
  go_wp2_with fail
  go_at_call 104
  refine (unhide FC).mono ?_
  rintro e W5 ⟨g, m, rfl, hm, o5, b5⟩
  have O5 := hide (o5.mono (unhide B2).size)
  have B5 := hide ((unhide B2).trans (b5.mono (unhide B2).size))
  clear o5 b5
  go_wp2
  go_ret2
  exact ⟨g, m, rfl, hm, unhide O5, unhide B5⟩
set_option maxRecDepth 20000 in
set_option maxHeartbeats 4000000 in
theorem hardRecord_no (t v : Int) (w : World) (h : ¬ (0 ≤ t ∧ t ≤ 1099511627776 ∧ 0 ≤ v ∧ v ≤ 9)) :
    Calls Tryz.prog 69 #[.agg #[.int .i64 t, .int .i64 v]] w fun e w' => e = .returned (.tuple #[.slice none 0 0, .int .i64 2]) ∧ Below w.heap.size w w' := by
  have b1 : Below w.heap.size w (w.alloc (.cells #[.int .i64 t, .int .i64 v] 29)) := (Below.refl _ _).alloc (Nat.le_refl _) _
  have X1 := heap_new w (.cells #[.int .i64 t, .int .i64 v] 29)
  obtain ⟨c0, c1, _, _⟩ := pair_cells X1
  have B1 := hide b1
  have N1 := hide (fun W => putHard_no t v W h)
  clear b1 X1 h
  go_enter Tryz.func69, Tryz.ntmps69
  go_wp2_with fail
  clear c0 c1
  generalize w.alloc _ = W1 at *
  go_at_call 106
  refine (unhide N1 _).mono ?_
  rintro e W2 ⟨rfl, b2⟩
  have B2 := hide ((unhide B1).trans (b2.mono (unhide B1).size))
  clear b2
  go_wp2
  go_ret2
  exact ⟨rfl, unhide B2⟩
end Go.Proofs.YtijcpmbfhfppmaaGreatDoor
