/- The contracts of wire.entryMayBe, addData, addEntry, PutEntry. -/
import Derived.Test.YtijcpmbfhfppmaaGreatDoorWhard
namespace Go.Proofs.YtijcpmbfhfppmaaGreatDoor
open Go.ChangeShapes Go.WideShapes Go.ChangeAt Go.RowKit

/-- An entry as a value. -/
abbrev entV (k t i : Int) (a : Option Addr) (n c : Nat) : Value := .agg #[.int .i64 k, .int .i64 t, .int .i64 i, .slice a n c]
abbrev entB (k t i : Int) (a : Option Addr) (n c : Nat) : Obj := .cells #[.int .i64 k, .int .i64 t, .int .i64 i, .slice a n c] 60
theorem entB_cells {w : World} {B : Nat} {k t i : Int} {a : Option Addr} {n c : Nat} (h : w.heap[B]? = some (entB k t i a n c)) :
    w.cell? ⟨B, 0, none⟩ = some (.int .i64 k) ∧ w.cell? ⟨B, 1, none⟩ = some (.int .i64 t) ∧ w.cell? ⟨B, 2, none⟩ = some (.int .i64 i) ∧ w.cell? ⟨B, 3, none⟩ = some (.slice a n c) := by
  refine ⟨?_, ?_, ?_, ?_⟩ <;> rw [cell_of_row _ _ _ _ _ _ h] <;> rfl
/-- May an entry be, its length left out? -/
def MayE (k t i : Int) (n : Nat) : Prop := (1 ≤ k ∧ k ≤ 3) ∧ (1 ≤ t ∧ t ≤ 1099511627776) ∧ (1 ≤ i ∧ i ≤ 1099511627776) ∧ (k ≠ 1 ∨ n = 0)

theorem mayBe_yes (k t i : Int) (a : Option Addr) (n c : Nat) (w : World) (h : MayE k t i n) :
    Calls Tryz.prog 136 #[entV k t i a n c] w fun e w' => e = .returned (.bool true) ∧ Below w.heap.size w w' := by
  obtain ⟨h1, h2, h3, h4⟩ := h
  obtain ⟨c0, c1, c2, c3⟩ := entB_cells (heap_new w (entB k t i a n c))
  have bA := hide (show Below w.heap.size w (w.alloc (entB k t i a n c)) from (Below.refl _ _).alloc (Nat.le_refl _) _)
  have H2 := hide h2
  have H3 := hide h3
  clear h2 h3
  go_enter Tryz.func136, Tryz.ntmps136
  go_wp2_with fail
  generalize w.alloc _ = W at *
  refine (within_yes k 1 3 _ h1).mono ?_
  rintro e w1 ⟨rfl, rfl⟩
  go_wp2_with fail
  refine (within_yes t 1 1099511627776 _ (unhide H2)).mono ?_
  rintro e w2 ⟨rfl, rfl⟩
  go_wp2_with fail
  refine (within_yes i 1 1099511627776 _ (unhide H3)).mono ?_
  rintro e w3 ⟨rfl, rfl⟩
  rcases h4 with h4 | rfl
  · go_wp2
    go_ret
    exact ⟨rfl, unhide bA⟩
  · go_wp2
    all_goals (go_ret; exact ⟨rfl, unhide bA⟩)
theorem mayBe_no (k t i : Int) (a : Option Addr) (n c : Nat) (w : World) (h : ¬ MayE k t i n) :
    Calls Tryz.prog 136 #[entV k t i a n c] w fun e w' => e = .returned (.bool false) ∧ Below w.heap.size w w' := by
  obtain ⟨c0, c1, c2, c3⟩ := entB_cells (heap_new w (entB k t i a n c))
  have bA := hide (show Below w.heap.size w (w.alloc (entB k t i a n c)) from (Below.refl _ _).alloc (Nat.le_refl _) _)
  have H := hide h
  clear h
  go_enter Tryz.func136, Tryz.ntmps136
  go_wp2_with fail
  generalize w.alloc _ = W at *
  by_cases h1 : 1 ≤ k ∧ k ≤ 3
  · refine (within_yes k 1 3 _ h1).mono ?_
    rintro e w1 ⟨rfl, rfl⟩
    go_wp2_with fail
    by_cases h2 : 1 ≤ t ∧ t ≤ 1099511627776
    · refine (within_yes t 1 1099511627776 _ h2).mono ?_
      rintro e w2 ⟨rfl, rfl⟩
      go_wp2_with fail
      by_cases h3 : 1 ≤ i ∧ i ≤ 1099511627776
      · refine (within_yes i 1 1099511627776 _ h3).mono ?_
        rintro e w3 ⟨rfl, rfl⟩
        have hk : k = 1 := Classical.byContradiction fun hk => unhide H ⟨h1, h2, h3, .inl hk⟩
        have hn : ¬ n = 0 := fun hn => unhide H ⟨h1, h2, h3, .inr hn⟩
        subst hk
        have hn0 : ((n : Int) == 0) = false := by simpa using hn
        clear H h1 h2 h3
        go_wp2
        go_ret
        exact ⟨rfl, unhide bA⟩
      · have H3 := hide h3
        clear h3 h2 h1 H
        refine (within_no i 1 1099511627776 _ (unhide H3)).mono ?_
        rintro e w3 ⟨rfl, rfl⟩
        go_wp2
        go_ret
        exact ⟨rfl, unhide bA⟩
    · have H2 := hide h2
      clear h2 h1 H
      refine (within_no t 1 1099511627776 _ (unhide H2)).mono ?_
      rintro e w3 ⟨rfl, rfl⟩
      go_wp2
      go_ret
      exact ⟨rfl, unhide bA⟩
  · have H1 := hide h1
    clear h1 H
    refine (within_no k 1 3 _ (unhide H1)).mono ?_
    rintro e w3 ⟨rfl, rfl⟩
    go_wp2
    go_ret
    exact ⟨rfl, unhide bA⟩

theorem BytesAt.grew {w w' : World} {a sp sp' : Option Addr} {l : List Nat} (hb : BytesAt w a l) (hg : Grew w sp w' sp') (hne : ∀ b off, 0 < l.length → a = some ⟨b, off, none⟩ → blk sp ≠ some b) : BytesAt w' a l := by
  refine ⟨hb.lt, fun i hi => ?_⟩
  obtain ⟨b, off, h1, h2⟩ := hb.cell i hi
  refine ⟨b, off, h1, ?_⟩
  rw [World.cell?_of_block (w := w) (w' := w') (hg.grown.block b (World.block_lt_of_cell? _ _ h2) (fun e => hne b off (by omega) h1 e.symm))]
  exact h2
theorem addData_grew (base : Nat) (sp : Option Addr) (n0 c : Nat) (l : List Nat) (dp : Option Addr) (m dc : Nat) (d : List Nat) (w : World) (hn0 : l.length = n0) (hown : OwnB base w sp c l) (hl : l.length ≤ 1099511627776) (hbase : base ≤ w.heap.size)
    (hm : d.length = m) (hB : BytesAt w dp d) (hz : dp = none → dc = 0) (hne : ∀ b off, 0 < d.length → dp = some ⟨b, off, none⟩ → blk sp ≠ some b) (hd : d.length ≤ 1099511627776) :
    Calls Tryz.prog 166 #[.slice sp n0 c, .slice dp m dc] w fun e w' => ∃ sp' n' c', e = .returned (.slice sp' n' c') ∧ Hid ((l ++ (numB m ++ d)).length = n') ∧ OwnB base w' sp' c' (l ++ (numB m ++ d)) ∧ Grew w sp w' sp' := by
  have HB := hide hB
  have HZ := hide hz
  have HNE := hide hne
  have HM := hide hm
  have HO := hide hown
  have HN := hide hn0
  have HD := hide hd
  clear hB hz hne hm hown hn0 hd
  go_enter Tryz.func166, Tryz.ntmps166
  go_wp2_with fail
  refine (addNumber_grew base sp n0 c l m _ (unhide HN) (unhide HO) hl (by have := unhide HM; have := unhide HD; omega) hbase).mono ?_
  rintro e w1 ⟨sp1, n1, c1, rfl, hn1, ho1, hg1⟩
  have hB1 := hide ((unhide HB).grew hg1 (unhide HNE))
  have HG1 := hide hg1
  have HO1 := hide ho1
  have hlen := hide (show (l ++ numB m).length + m ≤ 140737488355328 by
    have := (numB_length m).2
    have := unhide HM
    have := unhide HD
    rw [List.length_append]; omega)
  have hbw := hide (Nat.le_trans hbase hg1.grown.size)
  clear hg1 ho1
  go_wp2_with (at_builtin; refine wpList_append8L rfl (.tmp 8) (.tmp 9) rfl base sp1 n1 c1 (l ++ numB m) rfl (unhide hn1) (unhide HO1) dp m dc rfl d (unhide HM) (unhide hB1) (unhide HZ) (unhide hlen) (unhide hbw) ?_; intro sp2 n2 c2 W2 hn2 ho2 hg2 hl2)
  rw [List.append_assoc] at hn2 ho2
  go_ret
  exact ⟨sp2, n2, c2, rfl, hn2, ho2, (unhide HG1).trans ⟨hg2, hl2⟩⟩
theorem Grew.apart {W W' : World} {sp sp' : Option Addr} (hg : Grew W sp W' sp') {b : Nat} (hb : b < W.heap.size) (h : blk sp ≠ some b) : blk sp' ≠ some b := by
  intro e
  rcases hg.lies b e with h1 | h1
  · exact h h1
  · omega
/-- An entry's bytes. -/
def entryB (k t i : Nat) (d : List Nat) : List Nat := k :: (numB t ++ (numB i ++ (numB d.length ++ d)))
theorem entryB_assoc (l : List Nat) (k t i : Nat) (d : List Nat) : l ++ [k] ++ numB t ++ numB i ++ (numB d.length ++ d) = l ++ entryB k t i d := by
  simp [entryB, List.append_assoc]
set_option maxHeartbeats 1000000 in
theorem addEntry_grew (base : Nat) (sp : Option Addr) (n0 c : Nat) (l : List Nat) (k t i : Nat) (dp : Option Addr) (m dc : Nat) (d : List Nat) (w : World) (hn0 : l.length = n0) (hown : OwnB base w sp c l) (hl : l.length ≤ 549755813888) (hbase : base ≤ w.heap.size)
    (hk : k < 256) (ht : t ≤ 1099511627776) (hi : i ≤ 1099511627776)
    (hm : d.length = m) (hB : BytesAt w dp d) (hz : dp = none → dc = 0) (hne : ∀ b off, 0 < d.length → dp = some ⟨b, off, none⟩ → blk sp ≠ some b) (hd : d.length ≤ 549755813888) :
    Calls Tryz.prog 137 #[.slice sp n0 c, entV k t i dp m dc] w fun e w' => ∃ sp' n' c', e = .returned (.slice sp' n' c') ∧ Hid ((l ++ entryB k t i d).length = n') ∧ OwnB base w' sp' c' (l ++ entryB k t i d) ∧ Grew w sp w' sp' := by
  have h0 := heap_new w (entB k t i dp m dc)
  obtain ⟨c0, c1, c2, c3⟩ := entB_cells h0
  have bA : Below w.heap.size w (w.alloc (entB k t i dp m dc)) := (Below.refl _ _).alloc (Nat.le_refl _) _
  have HA := hide bA
  have hlt : w.heap.size < (w.alloc (entB k t i dp m dc)).heap.size := by rw [size_alloc]; omega
  have hspB : blk sp ≠ some w.heap.size := fun e => by have := (hown.blk_lt _ e).2; omega
  have HO := hide (hown.later bA)
  have HB := hide (hB.later bA)
  have HN := hide hn0
  have HZ := hide hz
  have HM := hide hm
  have HD := hide hd
  have Hb := hide (Nat.le_trans hbase bA.size)
  have HNE := hide (show ∀ b off, 0 < d.length → dp = some ⟨b, off, none⟩ → b < (w.alloc (entB k t i dp m dc)).heap.size ∧ blk sp ≠ some b from fun b off h1 h2 => ⟨Nat.lt_of_lt_of_le (block_lt hB h1 b off h2) bA.size, hne b off h1 h2⟩)
  have HX := hide h0
  have Hlt := hide hlt
  have HspB := hide hspB
  clear h0 bA hown hB hn0 hz hm hd hne hlt hspB hbase
  go_enter Tryz.func137, Tryz.ntmps137
  have hlit := hide (bytesAt_block (l := [k]) (heap_new (w.alloc (entB k t i dp m dc)) (.cells #[.int .u8 (k : Int)] 5)) (by intro c hc; simp only [List.mem_cons, List.not_mem_nil, or_false] at hc; omega))
  rw [size_alloc] at hlit
  have bL := hide (show Below (w.alloc (entB k t i dp m dc)).heap.size (w.alloc (entB k t i dp m dc)) ((w.alloc (entB k t i dp m dc)).alloc (.cells #[.int .u8 (k : Int)] 5)) from (Below.refl _ _).alloc (Nat.le_refl _) _)
  clear c1 c2 c3
  go_wp2_with (at_builtin; refine wpList_append8L rfl (.tmp 5) (.tmp 9) rfl base sp n0 c l rfl (unhide HN) (by exact (unhide HO).later (unhide bL)) (some ⟨w.heap.size + 1, 0, none⟩) 1 1 rfl [k] rfl (by exact unhide hlit) (fun h => by cases h) (by omega) (by exact Nat.le_trans (unhide Hb) (unhide bL).size) ?_; intro sp1 n1 k1 W1 hn1 ho1 hg1 hl1; have G1 := hide (Grew.aside (unhide bL) ⟨hg1, hl1⟩); obtain ⟨_, d1, d2, d3⟩ := entB_cells ((unhide G1).block (unhide HX) (unhide HspB)); have O1 := hide ho1; clear hg1 hl1 ho1)
  clear d2 d3
  refine (addNumber_grew base sp1 n1 k1 (l ++ [k]) t _ (unhide hn1) (unhide O1) (by rw [List.length_append]; simp only [List.length_cons, List.length_nil]; omega) ht (by exact Nat.le_trans (unhide Hb) (unhide G1).grown.size)).mono ?_
  rintro e W2 ⟨sp2, n2, k2, rfl, hn2, ho2, hg2⟩
  have G2 := hide ((unhide G1).trans hg2)
  have O2 := hide ho2
  obtain ⟨_, d1, d2, d3⟩ := entB_cells ((unhide G2).block (unhide HX) (unhide HspB))
  clear hg2 ho2 d1 d3 O1 G1
  go_wp2_with fail
  refine (addNumber_grew base sp2 n2 k2 (l ++ [k] ++ numB t) i _ (unhide hn2) (unhide O2) (by have := numB_short t ht; rw [List.length_append, List.length_append]; simp only [List.length_cons, List.length_nil]; omega) hi (by exact Nat.le_trans (unhide Hb) (unhide G2).grown.size)).mono ?_
  rintro e W3 ⟨sp3, n3, k3, rfl, hn3, ho3, hg3⟩
  have G3 := hide ((unhide G2).trans hg3)
  have O3 := hide ho3
  obtain ⟨_, d1, d2, d3⟩ := entB_cells ((unhide G3).block (unhide HX) (unhide HspB))
  have B3 := hide ((unhide HB).grew (unhide G3) (fun b off h1 h2 => (unhide HNE b off h1 h2).2))
  have N3 := hide (show ∀ b off, 0 < d.length → dp = some ⟨b, off, none⟩ → blk sp3 ≠ some b from fun b off h1 h2 => (unhide G3).apart (unhide HNE b off h1 h2).1 (unhide HNE b off h1 h2).2)
  clear hg3 ho3 d1 d2 O2 G2
  go_wp2_with fail
  refine (addData_grew base sp3 n3 k3 (l ++ [k] ++ numB t ++ numB i) dp m dc d _ (unhide hn3) (unhide O3) (by have := numB_short t ht; have := numB_short i hi; rw [List.length_append, List.length_append, List.length_append]; simp only [List.length_cons, List.length_nil]; omega) (by exact Nat.le_trans (unhide Hb) (unhide G3).grown.size) (unhide HM) (unhide B3) (unhide HZ) (unhide N3) (by have := unhide HD; omega)).mono ?_
  rintro e W4 ⟨sp4, n4, k4, rfl, hn4, ho4, hg4⟩
  have G4 := hide (Grew.aside (unhide HA) ((unhide G3).trans hg4))
  have hm := unhide HM
  subst hm
  rw [entryB_assoc] at hn4 ho4
  clear hg4
  go_wp2
  go_ret
  exact ⟨sp4, n4, k4, rfl, hn4, ho4, unhide G4⟩

set_option maxHeartbeats 1000000 in
theorem putEntry_yes (k t i : Nat) (dp : Option Addr) (m dc : Nat) (d : List Nat) (w : World) (h : MayE k t i m) (hm : d.length = m) (hB : BytesAt w dp d) (hz : dp = none → dc = 0) (hd : d.length ≤ 2048) :
    Calls Tryz.prog 103 #[entV k t i dp m dc] w fun e w' => ∃ sp n c, e = .returned (.tuple #[.slice sp n c, .int .i64 0]) ∧ Hid ((entryB k t i d).length = n) ∧ OwnB w.heap.size w' sp c (entryB k t i d) ∧ Below w.heap.size w w' := by
  have h0 := heap_new w (entB k t i dp m dc)
  obtain ⟨c0, c1, c2, c3⟩ := entB_cells h0
  have bA : Below w.heap.size w (w.alloc (entB k t i dp m dc)) := (Below.refl _ _).alloc (Nat.le_refl _) _
  have HA := hide bA
  have HX := hide h0
  have HB := hide (hB.later bA)
  have HM := hide hm
  have HZ := hide hz
  have H := hide h
  have hm2 : m ≤ 2048 := by omega
  clear h0 bA hB hm hz h
  go_enter Tryz.func103, Tryz.ntmps103
  go_wp2_with fail
  refine (mayBe_yes k t i dp m dc _ (unhide H)).mono ?_
  rintro e W1 ⟨rfl, b1⟩
  obtain ⟨e0, e1, e2, e3⟩ := entB_cells ((b1.block _ (by rw [size_alloc]; omega)).trans (unhide HX))
  have B1 := hide ((unhide HB).later b1)
  have HA1 := hide ((unhide HA).trans (b1.mono (unhide HA).size))
  clear b1
  go_wp2_with fail
  refine (addEntry_grew W1.heap.size none 0 0 [] k t i dp m dc d _ rfl (OwnB.ofNil _ _) (by simp) (Nat.le_refl _) (by have := (unhide H).1; omega) (by have := (unhide H).2.1; omega) (by have := (unhide H).2.2.1; omega) (unhide HM) (unhide B1) (unhide HZ) (fun _ _ _ _ h => by cases h) (by omega)).mono ?_
  rintro e W2 ⟨sp, n, c, rfl, hn, ho, hg⟩
  rw [List.nil_append] at hn ho
  have HF := hide ((unhide HA1).trans ((hg.below (OwnB.ofNil _ W1.heap.size) (Nat.le_refl _)).mono (unhide HA1).size))
  have HO := hide (ho.mono (unhide HA1).size)
  clear hg ho
  go_wp2
  go_ret2
  exact ⟨sp, n, c, rfl, hn, unhide HO, unhide HF⟩
theorem putEntry_no (k t i : Int) (dp : Option Addr) (m dc : Nat) (w : World) (h : ¬ MayE k t i m) :
    Calls Tryz.prog 103 #[entV k t i dp m dc] w fun e w' => e = .returned (.tuple #[.slice none 0 0, .int .i64 2]) ∧ Below w.heap.size w w' := by
  obtain ⟨c0, c1, c2, c3⟩ := entB_cells (heap_new w (entB k t i dp m dc))
  have bA : Below w.heap.size w (w.alloc (entB k t i dp m dc)) := (Below.refl _ _).alloc (Nat.le_refl _) _
  have HA := hide bA
  have H := hide h
  clear bA h
  go_enter Tryz.func103, Tryz.ntmps103
  go_wp2_with fail
  refine (mayBe_no k t i dp m dc _ (unhide H)).mono ?_
  rintro e W1 ⟨rfl, b1⟩
  have HA1 := hide ((unhide HA).trans (b1.mono (unhide HA).size))
  go_wp2
  go_ret2
  exact ⟨rfl, unhide HA1⟩
theorem putEntry_long (k t i : Int) (dp : Option Addr) (m dc : Nat) (w : World) (h : MayE k t i m) (hd : 2048 < m) :
    Calls Tryz.prog 103 #[entV k t i dp m dc] w fun e w' => e = .returned (.tuple #[.slice none 0 0, .int .i64 6]) ∧ Below w.heap.size w w' := by
  have h0 := heap_new w (entB k t i dp m dc)
  obtain ⟨c0, c1, c2, c3⟩ := entB_cells h0
  have bA : Below w.heap.size w (w.alloc (entB k t i dp m dc)) := (Below.refl _ _).alloc (Nat.le_refl _) _
  have HA := hide bA
  have H := hide h
  have HX := hide h0
  clear bA h h0
  go_enter Tryz.func103, Tryz.ntmps103
  go_wp2_with fail
  refine (mayBe_yes k t i dp m dc _ (unhide H)).mono ?_
  rintro e W1 ⟨rfl, b1⟩
  obtain ⟨e0, e1, e2, e3⟩ := entB_cells ((b1.block _ (by rw [size_alloc]; omega)).trans (unhide HX))
  have HA1 := hide ((unhide HA).trans (b1.mono (unhide HA).size))
  clear b1
  go_wp2
  go_ret2
  exact ⟨rfl, unhide HA1⟩
end Go.Proofs.YtijcpmbfhfppmaaGreatDoor
