/- The document's answers of layer 2: RightEntry, PutEntry. -/
import Derived.Test.YtcmdckhbejokhaaRadd0
import Derived.Deep.RegionHeld3
import Derived.Test.YtcmdckhbejokhaaWent
namespace Go.Proofs.Ytcmdckhbejokhaa
open Go.ChangeShapes Go.WideShapes Go.ChangeAt Go.RowKit

set_option maxHeartbeats 2000000 in
theorem right_no (k t i : Int) (a : Option Addr) (n c : Nat) (w : World) (h : ¬ MayE k t i n) :
    Calls Try.prog 42 #[entV k t i a n c] w fun e w' => e = .returned (.int .i64 2) ∧ Below w.heap.size w w' := by
  obtain ⟨c0, c1, c2, c3⟩ := entB_cells (heap_new w (entB k t i a n c))
  have bA := hide (show Below w.heap.size w (w.alloc (entB k t i a n c)) from (Below.refl _ _).alloc (Nat.le_refl _) _)
  have H := hide h
  clear h
  go_enter Try.func42, Try.ntmps42
  by_cases h1 : 1 ≤ k
  rotate_left
  · go_wp2
    go_ret
    exact ⟨rfl, unhide bA⟩
  by_cases h2 : k ≤ 3
  rotate_left
  · go_wp2
    go_ret
    exact ⟨rfl, unhide bA⟩
  by_cases h3 : 1 ≤ t
  rotate_left
  · go_wp2
    go_ret
    exact ⟨rfl, unhide bA⟩
  by_cases h4 : t ≤ 1099511627776
  rotate_left
  · go_wp2
    go_ret
    exact ⟨rfl, unhide bA⟩
  by_cases h5 : 1 ≤ i
  rotate_left
  · go_wp2
    go_ret
    exact ⟨rfl, unhide bA⟩
  by_cases h6 : i ≤ 1099511627776
  rotate_left
  · go_wp2
    go_ret
    exact ⟨rfl, unhide bA⟩
  have hk : k = 1 := Classical.byContradiction fun hk => unhide H ⟨⟨h1, h2⟩, ⟨h3, h4⟩, ⟨h5, h6⟩, .inl hk⟩
  have hn : ¬ n = 0 := fun hn => unhide H ⟨⟨h1, h2⟩, ⟨h3, h4⟩, ⟨h5, h6⟩, .inr hn⟩
  have hn0 : 0 < n := by omega
  subst hk
  go_wp2
  go_ret
  exact ⟨rfl, unhide bA⟩
set_option maxHeartbeats 1000000 in
theorem right_yes (k t i : Int) (a : Option Addr) (n c : Nat) (w : World) (h : MayE k t i n) (hn : n ≤ 2048) :
    Calls Try.prog 42 #[entV k t i a n c] w fun e w' => e = .returned (.int .i64 0) ∧ Below w.heap.size w w' := by
  obtain ⟨⟨h1, h2⟩, ⟨h3, h4⟩, ⟨h5, h6⟩, h7⟩ := h
  by_cases hk : k = 1
  · have hn0 : n = 0 := h7.resolve_left (fun h => h hk)
    subst hk hn0
    obtain ⟨c0, c1, c2, c3⟩ := entB_cells (heap_new w (entB 1 t i a 0 c))
    have bA := hide (show Below w.heap.size w (w.alloc (entB 1 t i a 0 c)) from (Below.refl _ _).alloc (Nat.le_refl _) _)
    go_enter Try.func42, Try.ntmps42
    go_wp2
    go_ret
    exact ⟨rfl, unhide bA⟩
  · obtain ⟨c0, c1, c2, c3⟩ := entB_cells (heap_new w (entB k t i a n c))
    have bA := hide (show Below w.heap.size w (w.alloc (entB k t i a n c)) from (Below.refl _ _).alloc (Nat.le_refl _) _)
    clear h7
    go_enter Try.func42, Try.ntmps42
    go_wp2
    go_ret
    exact ⟨rfl, unhide bA⟩
theorem right_long (k t i : Int) (a : Option Addr) (n c : Nat) (w : World) (h : MayE k t i n) (hn : 2048 < n) :
    Calls Try.prog 42 #[entV k t i a n c] w fun e w' => e = .returned (.int .i64 6) ∧ Below w.heap.size w w' := by
  obtain ⟨c0, c1, c2, c3⟩ := entB_cells (heap_new w (entB k t i a n c))
  have bA := hide (show Below w.heap.size w (w.alloc (entB k t i a n c)) from (Below.refl _ _).alloc (Nat.le_refl _) _)
  obtain ⟨⟨h1, h2⟩, ⟨h3, h4⟩, ⟨h5, h6⟩, h7⟩ := h
  have h7 : ¬ k = 1 := h7.resolve_right (by omega)
  go_enter Try.func42, Try.ntmps42
  go_wp2
  go_ret
  exact ⟨rfl, unhide bA⟩
theorem refPutEntry_no (k t i : Int) (dp : Option Addr) (m dc : Nat) (x : Int) (w : World) (h : ∀ w : World, Calls Try.prog 42 #[entV k t i dp m dc] w fun e w' => e = .returned (.int .i64 x) ∧ Below w.heap.size w w') (hx : ¬ x = 0) :
    Calls Try.prog 21 #[entV k t i dp m dc] w fun e w' => e = .returned (.tuple #[.slice none 0 0, .int .i64 x]) ∧ Below w.heap.size w w' := by
  obtain ⟨c0, c1, c2, c3⟩ := entB_cells (heap_new w (entB k t i dp m dc))
  have bA : Below w.heap.size w (w.alloc (entB k t i dp m dc)) := (Below.refl _ _).alloc (Nat.le_refl _) _
  have HA := hide bA
  have H := hide h
  clear bA h
  go_enter Try.func21, Try.ntmps21
  go_wp2_with fail
  refine (unhide H _).mono ?_
  rintro e W1 ⟨rfl, b1⟩
  have HA1 := hide ((unhide HA).trans (b1.mono (unhide HA).size))
  go_wp2
  go_ret2
  exact ⟨rfl, unhide HA1⟩
set_option maxHeartbeats 1000000 in
theorem refPutEntry_yes (k t i : Nat) (dp : Option Addr) (m dc : Nat) (d : List Nat) (w : World) (h : MayE k t i m) (hm : d.length = m) (hB : BytesAt w dp d) (hz : dp = none → dc = 0) (hd : d.length ≤ 2048) :
    Calls Try.prog 21 #[entV k t i dp m dc] w fun e w' => ∃ sp n c, e = .returned (.tuple #[.slice sp n c, .int .i64 0]) ∧ Hid ((entryB k t i d).length = n) ∧ BytesAt w' sp (entryB k t i d) ∧ Below w.heap.size w w' := by
  have h0 := heap_new w (entB k t i dp m dc)
  obtain ⟨c0, c1, c2, c3⟩ := entB_cells h0
  have bA : Below w.heap.size w (w.alloc (entB k t i dp m dc)) := (Below.refl _ _).alloc (Nat.le_refl _) _
  have HA := hide bA
  have HX := hide h0
  have HB := hide (hB.later bA)
  have HM := hide hm
  have HZ := hide hz
  have H := hide h
  have hm2 : m ≤ 2048 := by omega
  have ht := hide (show t ≤ 1099511627776 by have := h.2.1; omega)
  have hi := hide (show i ≤ 1099511627776 by have := h.2.2.1; omega)
  have hk := show k < 256 by have := h.1; omega
  clear h0 bA hB hm hz h
  go_enter Try.func21, Try.ntmps21
  go_wp2_with fail
  refine (right_yes k t i dp m dc _ (unhide H) hm2).mono ?_
  rintro e W1 ⟨rfl, b1⟩
  have X1 := hide ((b1.block _ (by rw [size_alloc]; omega)).trans (unhide HX))
  have B1 := hide ((unhide HB).later b1)
  have HA1 := hide ((unhide HA).trans (b1.mono (unhide HA).size))
  obtain ⟨d0, d1, d2, d3⟩ := entB_cells (unhide X1)
  have hlt := hide (show w.heap.size < W1.heap.size from Nat.lt_of_lt_of_le (by rw [size_alloc]; omega) b1.size)
  clear b1 c0 c1 c2 c3
  have o2 : OwnB W1.heap.size (W1.alloc (.cells #[.int .u8 (k : Int)] 5)) (some ⟨W1.heap.size, 0, none⟩) 1 [k] := OwnB.ofBlock (l := [k]) (heap_new _ _) (Nat.le_refl _) (by intro c hc; simp only [List.mem_cons, List.not_mem_nil, or_false] at hc; omega) (by simp [maxLen])
  have b2 : Below W1.heap.size W1 (W1.alloc (.cells #[.int .u8 (k : Int)] 5)) := (Below.refl _ _).alloc (Nat.le_refl _) _
  have X2 := hide ((b2.block _ (unhide hlt)).trans (unhide X1))
  have O2 := hide o2
  have B2 := hide b2
  have D2 := hide ((unhide B1).later b2)
  obtain ⟨f0, f1, f2, f3⟩ := entB_cells (unhide X2)
  clear o2 b2
  go_wp2_with fail
  generalize W1.alloc _ = W2 at *
  have hW := hide (show W1.heap.size ≤ W2.heap.size from (unhide B2).size)
  have key := hide (show ∀ W' : World, Below W1.heap.size W2 W' → W'.cell? ⟨w.heap.size, 1, none⟩ = some (.int .i64 (t : Int)) ∧ W'.cell? ⟨w.heap.size, 2, none⟩ = some (.int .i64 (i : Int)) ∧ W'.cell? ⟨w.heap.size, 3, none⟩ = some (.slice dp m dc) from
    fun W' h => ⟨(h.cell (p := ⟨w.heap.size, 1, none⟩) (unhide hlt)).trans f1, (h.cell (p := ⟨w.heap.size, 2, none⟩) (unhide hlt)).trans f2, (h.cell (p := ⟨w.heap.size, 3, none⟩) (unhide hlt)).trans f3⟩)
  go_region_held3 (fun w' => w'.cell? ⟨w.heap.size, 1, none⟩ = some (.int .i64 (t : Int)) ∧ w'.cell? ⟨w.heap.size, 2, none⟩ = some (.int .i64 (i : Int)) ∧ w'.cell? ⟨w.heap.size, 3, none⟩ = some (.slice dp m dc))
    (first
      | exact unhide key _ ((Below.refl _ _).drew.trans ((hb3.trans hb4).trans hb5))
      | exact unhide key _ ((Below.refl _ _).drew.trans (hb3.trans hb4))
      | exact unhide key _ ((Below.refl _ _).drew.trans hb3)
      | exact ⟨f1, f2, f3⟩)
    (first
      | (go_at_call_of 20 (Value.slice (some ⟨W1.heap.size, 0, none⟩) 1 1); refine (refAdd_calls W1.heap.size (some ⟨W1.heap.size, 0, none⟩) 1 1 [k] t _ rfl (by exact (unhide O2).drew) (by simp) (unhide ht) (by exact unhide hW)).mono ?_; rintro e W3 ⟨sp3, n3, k3, rfl, hn3, ho3, hg3⟩; have hb3 := hg3.below (unhide O2).drew (by exact unhide hW))
      | (go_at_call_of 20 (Value.slice sp3 n3 k3); refine (refAdd_calls W1.heap.size sp3 n3 k3 ([k] ++ numB t) i _ (unhide hn3) ho3 (by have := numB_short t (unhide ht); simp only [List.length_append, List.length_cons, List.length_nil]; omega) (unhide hi) (by exact Nat.le_trans (unhide hW) hb3.size)).mono ?_; rintro e W4 ⟨sp4, n4, k4, rfl, hn4, ho4, hg4⟩; have hb4 := hg4.below ho3 (by exact Nat.le_trans (unhide hW) hb3.size))
      | (go_at_call_of 20 (Value.slice sp4 n4 k4); refine (refAdd_calls W1.heap.size sp4 n4 k4 ([k] ++ numB t ++ numB i) m _ (unhide hn4) ho4 (by have := numB_short t (unhide ht); have := numB_short i (unhide hi); simp only [List.length_append, List.length_cons, List.length_nil]; omega) (by omega) (by exact Nat.le_trans (unhide hW) (hb3.trans hb4).size)).mono ?_; rintro e W5 ⟨sp5, n5, k5, rfl, hn5, ho5, hg5⟩; have hb5 := hg5.below ho4 (by exact Nat.le_trans (unhide hW) (hb3.trans hb4).size)))
  have HH := unhide key _ ((Below.refl _ _).drew.trans ((hb3.trans hb4).trans hb5))
  obtain ⟨g1, g2, g3⟩ := HH
  have F5 := hide (show Below W1.heap.size W2 W5 from (Below.refl _ _).drew.trans ((hb3.trans hb4).trans hb5))
  have O5 := hide ho5
  have D5 := hide (show BytesAt W5 dp d from by
    refine ⟨(unhide D2).lt, fun j hj => ?_⟩
    obtain ⟨b, off, e1, e2⟩ := (unhide B1).cell j hj
    refine ⟨b, off, e1, ?_⟩
    have hlt1 := World.block_lt_of_cell? _ _ e2
    rw [(unhide F5).cell (p := ⟨b, off + j, none⟩) hlt1, (unhide B2).cell (p := ⟨b, off + j, none⟩) hlt1]
    exact e2)
  have hl5 := hide (show ([k] ++ numB t ++ numB i ++ numB m).length + m ≤ 140737488355328 by have := numB_short t (unhide ht); have := numB_short i (unhide hi); have := numB_short m (by omega); simp only [List.length_append, List.length_cons, List.length_nil]; omega)
  clear hb3 hb4 hb5 ho3 ho4 ho5 hg3 hg4 hg5 hn3 hn4 g1 g2 f1 f2 f3 d1 d2 d3
  go_wp2_with (at_builtin; refine wpList_append8 rfl (.tmp 26) (.tmp 28) rfl W1.heap.size sp5 n5 k5 ([k] ++ numB t ++ numB i ++ numB m) rfl (unhide hn5) (by exact unhide O5) dp m dc rfl d (unhide HM) (by exact unhide D5) (unhide HZ) (unhide hl5) (by exact Nat.le_trans (unhide hW) (unhide F5).size) ?_; intro sp6 n6 k6 W6 hn6 ho6 hg6 hb6)
  have hmm := unhide HM
  subst hmm
  rw [show [k] ++ numB t ++ numB i ++ numB d.length ++ d = entryB k t i d by simp [entryB, List.append_assoc]] at hn6 ho6
  go_ret2
  exact ⟨sp6, n6, k6, rfl, hn6, ho6.bytes, (unhide HA1).trans ((((unhide B2).trans ((unhide F5))).trans hb6).mono (unhide HA1).size)⟩
end Go.Proofs.Ytcmdckhbejokhaa
