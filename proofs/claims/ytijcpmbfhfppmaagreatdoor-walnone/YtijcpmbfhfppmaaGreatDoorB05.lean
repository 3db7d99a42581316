/- The contracts of wire.entryMayBe, addData, addEntry, PutEntry. -/
import Derived.Test.YtijcpmbfhfppmaaGreatDoorB02
import Derived.Test.YtijcpmbfhfppmaaGreatDoorB04
import Derived.Test.YtijcpmbfhfppmaaGreatDoorB01
import Derived.Laws.CopyOwn
import Derived.Laws.AppendOwn
import Derived.ArgAppend
import Derived.Laws.Tables
import Derived.Laws.Rows
section
namespace Go.Proofs.YtijcpmbfhfppmaaGreatDoor
open Go.ChangeShapes Go.WideShapes Go.ChangeAt Go.RowKit

/-- An entry as a value. -/
abbrev entV (k t i : Int) (a : Option Addr) (n c : Nat) : Value := .agg #[.int .i64 k, .int .i64 t, .int .i64 i, .slice a n c]
abbrev entB (k t i : Int) (a : Option Addr) (n c : Nat) : Obj := .cells #[.int .i64 k, .int .i64 t, .int .i64 i, .slice a n c] 60
theorem entB_cells {w : World} {B : Nat} {k t i : Int} {a : Option Addr} {n c : Nat} (h : w.heap[B]? = some (entB k t i a n c)) :
    w.cell? ⟨B, 0, none⟩ = some (.int .i64 k) ∧ w.cell? ⟨B, 1, none⟩ = some (.int .i64 t) ∧ w.cell? ⟨B, 2, none⟩ = some (.int .i64 i) ∧ w.cell? ⟨B, 3, none⟩ = some (.slice a n c) := by
  refine ⟨?_, ?_, ?_, ?_⟩ <;> rw [cell_of_row _ _ _ _ _ _ h] <;> rfl
/-- May an entry be, its length left out? -/
def MayE (k t i : Int) (n : Nat) : Prop := (1 ≤ k ∧ k ≤ 3) ∧ (1 ≤ t ∧ t ≤ 1099511627776) ∧ (1 ≤ i ∧ i ≤ 1099511627776) ∧ (k ≠ 1 ∨ n = 0)

theorem mayBe_yes (k t i : Int) (a : Option Addr) (n c : Nat) (w : World) (h : MayE k t i n) :
    Calls Tryz.prog 136 #[entV k t i a n c] w fun e w' => e = .returned (.bool true) ∧ Below w.heap.size w w' := by
  obtain ⟨h1, h2, h3, h4⟩ := h
  obtain ⟨c0, c1, c2, c3⟩ := entB_cells (heap_new w (entB k t i a n c))
  have bA := hide (show Below w.heap.size w (w.alloc (entB k t i a n c)) from (Below.refl _ _).alloc (Nat.le_refl _) _)
  have H2 := hide h2
  have H3 := hide h3
  clear h2 h3
  go_enter Tryz.func136, Tryz.ntmps136
  go_wp2_with fail
  generalize w.alloc _ = W at *
  refine (within_yes k 1 3 _ h1).mono ?_
  rintro e w1 ⟨rfl, rfl⟩
  go_wp2_with fail
  refine (within_yes t 1 1099511627776 _ (unhide H2)).mono ?_
  rintro e w2 ⟨rfl, rfl⟩
  go_wp2_with fail
  refine (within_yes i 1 1099511627776 _ (unhide H3)).mono ?_
  rintro e w3 ⟨rfl, rfl⟩
  rcases h4 with h4 | rfl
  · go_wp2
    go_ret
    exact ⟨rfl, unhide bA⟩
  · go_wp2
    all_goals (go_ret; exact ⟨rfl, unhide bA⟩)
theorem mayBe_no (k t i : Int) (a : Option Addr) (n c : Nat) (w : World) (h : ¬ MayE k t i n) :
    Calls Tryz.prog 136 #[entV k t i a n c] w fun e w' => e = .returned (.bool false) ∧ Below w.heap.size w w' := by
  obtain ⟨c0, c1, c2, c3⟩ := entB_cells (heap_new w (entB k t i a n c))
  have bA := hide (show Below w.heap.size w (w.alloc (entB k t i a n c)) from (Below.refl _ _).alloc (Nat.le_refl _) _)
  have H := hide h
  clear h
  go_enter Tryz.func136, Tryz.ntmps136
  go_wp2_with fail
  generalize w.alloc _ = W at *
  by_cases h1 : 1 ≤ k ∧ k ≤ 3
  · refine (within_yes k 1 3 _ h1).mono ?_
    rintro e w1 ⟨rfl, rfl⟩
    go_wp2_with fail
    by_cases h2 : 1 ≤ t ∧ t ≤ 1099511627776
    · refine (within_yes t 1 1099511627776 _ h2).mono ?_
      rintro e w2 ⟨rfl, rfl⟩
      go_wp2_with fail
      by_cases h3 : 1 ≤ i ∧ i ≤ 1099511627776
      · refine (within_yes i 1 1099511627776 _ h3).mono ?_
        rintro e w3 ⟨rfl, rfl⟩
        have hk : k = 1 := Classical.byContradiction fun hk => unhide H ⟨h1, h2, h3, .inl hk⟩
        have hn : ¬ n = 0 := fun hn => unhide H ⟨h1, h2, h3, .inr hn⟩
        subst hk
        have hn0 : ((n : Int) == 0) = false := by simpa using hn
        clear H h1 h2 h3
        go_wp2
        go_ret
        exact ⟨rfl, unhide bA⟩
      · have H3 := hide h3
        clear h3 h2 h1 H
        refine (within_no i 1 1099511627776 _ (unhide H3)).mono ?_
        rintro e w3 ⟨rfl, rfl⟩
        go_wp2
        go_ret
        exact ⟨rfl, unhide bA⟩
    · have H2 := hide h2
      clear h2 h1 H
      refine (within_no t 1 1099511627776 _ (unhide H2)).mono ?_
      rintro e w3 ⟨rfl, rfl⟩
      go_wp2
      go_ret
      exact ⟨rfl, unhide bA⟩
  · have H1 := hide h1
    clear h1 H
    refine (within_no k 1 3 _ (unhide H1)).mono ?_
    rintro e w3 ⟨rfl, rfl⟩
    go_wp2
    go_ret
    exact ⟨rfl, unhide bA⟩

theorem BytesAt.grew {w w' : World} {a sp sp' : Option Addr} {l : List Nat} (hb : BytesAt w a l) (hg : Grew w sp w' sp') (hne : ∀ b off, 0 < l.length → a = some ⟨b, off, none⟩ → blk sp ≠ some b) : BytesAt w' a l := by
  refine ⟨hb.lt, fun i hi => ?_⟩
  obtain ⟨b, off, h1, h2⟩ := hb.cell i hi
  refine ⟨b, off, h1, ?_⟩
  rw [World.cell?_of_block (w := w) (w' := w') (hg.grown.block b (World.block_lt_of_cell? _ _ h2) (fun e => hne b off (by omega) h1 e.symm))]
  exact h2
theorem addData_grew (base : Nat) (sp : Option Addr) (n0 c : Nat) (l : List Nat) (dp : Option Addr) (m dc : Nat) (d : List Nat) (w : World) (hn0 : l.length = n0) (hown : OwnB base w sp c l) (hl : l.length ≤ 1099511627776) (hbase : base ≤ w.heap.size)
    (hm : d.length = m) (hB : BytesAt w dp d) (hz : dp = none → dc = 0) (hne : ∀ b off, 0 < d.length → dp = some ⟨b, off, none⟩ → blk sp ≠ some b) (hd : d.length ≤ 1099511627776) :
    Calls Tryz.prog 166 #[.slice sp n0 c, .slice dp m dc] w fun e w' => ∃ sp' n' c', e = .returned (.slice sp' n' c') ∧ Hid ((l ++ (numB m ++ d)).length = n') ∧ OwnB base w' sp' c' (l ++ (numB m ++ d)) ∧ Grew w sp w' sp' := by
  have HB := hide hB
  have HZ := hide hz
  have HNE := hide hne
  have HM := hide hm
  have HO := hide hown
  have HN := hide hn0
  have HD := hide hd
  clear hB hz hne hm hown hn0 hd
  go_enter Tryz.func166, Tryz.ntmps166
  go_wp2_with fail
  refine (addNumber_grew base sp n0 c l m _ (unhide HN) (unhide HO) hl (by have := unhide HM; have := unhide HD; omega) hbase).mono ?_
  rintro e w1 ⟨sp1, n1, c1, rfl, hn1, ho1, hg1⟩
  have hB1 := hide ((unhide HB).grew hg1 (unhide HNE))
  have HG1 := hide hg1
  have HO1 := hide ho1
  have hlen := hide (show (l ++ numB m).length + m ≤ 140737488355328 by
    have := (numB_length m).2
    have := unhide HM
    have := unhide HD
    rw [List.length_append]; omega)
  have hbw := hide (Nat.le_trans hbase hg1.grown.size)
  clear hg1 ho1
  go_wp2_with (at_builtin; refine wpList_append8L rfl (.tmp 8) (.tmp 9) rfl base sp1 n1 c1 (l ++ numB m) rfl (unhide hn1) (unhide HO1) dp m dc rfl d (unhide HM) (unhide hB1) (unhide HZ) (unhide hlen) (unhide hbw) ?_; intro sp2 n2 c2 W2 hn2 ho2 hg2 hl2)
  rw [List.append_assoc] at hn2 ho2
  go_ret
  exact ⟨sp2, n2, c2, rfl, hn2, ho2, (unhide HG1).trans ⟨hg2, hl2⟩⟩
theorem Grew.apart {W W' : World} {sp sp' : Option Addr} (hg : Grew W sp W' sp') {b : Nat} (hb : b < W.heap.size) (h : blk sp ≠ some b) : blk sp' ≠ some b := by
  intro e
  rcases hg.lies b e with h1 | h1
  · exact h h1
  · omega
/-- An entry's bytes. -/
def entryB (k t i : Nat) (d : List Nat) : List Nat := k :: (numB t ++ (numB i ++ (numB d.length ++ d)))
theorem entryB_assoc (l : List Nat) (k t i : Nat) (d : List Nat) : l ++ [k] ++ numB t ++ numB i ++ (numB d.length ++ d) = l ++ entryB k t i d := by
  simp [entryB, List.append_assoc]
set_option maxHeartbeats 1000000 in
theorem addEntry_grew (base : Nat) (sp : Option Addr) (n0 c : Nat) (l : List Nat) (k t i : Nat) (dp : Option Addr) (m dc : Nat) (d : List Nat) (w : World) (hn0 : l.length = n0) (hown : OwnB base w sp c l) (hl : l.length ≤ 549755813888) (hbase : base ≤ w.heap.size)
    (hk : k < 256) (ht : t ≤ 1099511627776) (hi : i ≤ 1099511627776)
    (hm : d.length = m) (hB : BytesAt w dp d) (hz : dp = none → dc = 0) (hne : ∀ b off, 0 < d.length → dp = some ⟨b, off, none⟩ → blk sp ≠ some b) (hd : d.length ≤ 549755813888) :
    Calls Tryz.prog 137 #[.slice sp n0 c, entV k t i dp m dc] w fun e w' => ∃ sp' n' c', e = .returned (.slice sp' n' c') ∧ Hid ((l ++ entryB k t i d).length = n') ∧ OwnB base w' sp' c' (l ++ entryB k t i d) ∧ Grew w sp w' sp' := by
  have h0 := heap_new w (entB k t i dp m dc)
  obtain ⟨c0, c1, c2, c3⟩ := entB_cells h0
  have bA : Below w.heap.size w (w.alloc (entB k t i dp m dc)) := (Below.refl _ _).alloc (Nat.le_refl _) _
  have HA := hide bA
  have hlt : w.heap.size < (w.alloc (entB k t i dp m dc)).heap.size := by rw [size_alloc]; omega
  have hspB : blk sp ≠ some w.heap.size := fun e => by have := (hown.blk_lt _ e).2; omega
  have HO := hide (hown.later bA)
  have HB := hide (hB.later bA)
  have HN := hide hn0
  have HZ := hide hz
  have HM := hide hm
  have HD := hide hd
  have Hb := hide (Nat.le_trans hbase bA.size)
  have HNE := hide (show ∀ b off, 0 < d.length → dp = some ⟨b, off, none⟩ → b < (w.alloc (entB k t i dp m dc)).heap.size ∧ blk sp ≠ some b from fun b off h1 h2 => ⟨Nat.lt_of_lt_of_le (block_lt hB h1 b off h2) bA.size, hne b off h1 h2⟩)
  have HX := hide h0
  have Hlt := hide hlt
  have HspB := hide hspB
  clear h0 bA hown hB hn0 hz hm hd hne hlt hspB hbase
  go_enter Tryz.func137, Tryz.ntmps137
  have hlit := hide (bytesAt_block (l := [k]) (heap_new (w.alloc (entB k t i dp m dc)) (.cells #[.int .u8 (k : Int)] 5)) (by intro c hc; simp only [List.mem_cons, List.not_mem_nil, or_false] at hc; omega))
  rw [size_alloc] at hlit
  have bL := hide (show Below (w.alloc (entB k t i dp m dc)).heap.size (w.alloc (entB k t i dp m dc)) ((w.alloc (entB k t i dp m dc)).alloc (.cells #[.int .u8 (k : Int)] 5)) from (Below.refl _ _).alloc (Nat.le_refl _) _)
  clear c1 c2 c3
  go_wp2_with (at_builtin; refine wpList_append8L rfl (.tmp 5) (.tmp 9) rfl base sp n0 c l rfl (unhide HN) (by exact (unhide HO).later (unhide bL)) (some ⟨w.heap.size + 1, 0, none⟩) 1 1 rfl [k] rfl (by exact unhide hlit) (fun h => by cases h) (by omega) (by exact Nat.le_trans (unhide Hb) (unhide bL).size) ?_; intro sp1 n1 k1 W1 hn1 ho1 hg1 hl1; have G1 := hide (Grew.aside (unhide bL) ⟨hg1, hl1⟩); obtain ⟨_, d1, d2, d3⟩ := entB_cells ((unhide G1).block (unhide HX) (unhide HspB)); have O1 := hide ho1; clear hg1 hl1 ho1)
  clear d2 d3
  refine (addNumber_grew base sp1 n1 k1 (l ++ [k]) t _ (unhide hn1) (unhide O1) (by rw [List.length_append]; simp only [List.length_cons, List.length_nil]; omega) ht (by exact Nat.le_trans (unhide Hb) (unhide G1).grown.size)).mono ?_
  rintro e W2 ⟨sp2, n2, k2, rfl, hn2, ho2, hg2⟩
  have G2 := hide ((unhide G1).trans hg2)
  have O2 := hide ho2
  obtain ⟨_, d1, d2, d3⟩ := entB_cells ((unhide G2).block (unhide HX) (unhide HspB))
  clear hg2 ho2 d1 d3 O1 G1
  go_wp2_with fail
  refine (addNumber_grew base sp2 n2 k2 (l ++ [k] ++ numB t) i _ (unhide hn2) (unhide O2) (by have := numB_short t ht; rw [List.length_append, List.length_append]; simp only [List.length_cons, List.length_nil]; omega) hi (by exact Nat.le_trans (unhide Hb) (unhide G2).grown.size)).mono ?_
  rintro e W3 ⟨sp3, n3, k3, rfl, hn3, ho3, hg3⟩
  have G3 := hide ((unhide G2).trans hg3)
  have O3 := hide ho3
  obtain ⟨_, d1, d2, d3⟩ := entB_cells ((unhide G3).block (unhide HX) (unhide HspB))
  have B3 := hide ((unhide HB).grew (unhide G3) (fun b off h1 h2 => (unhide HNE b off h1 h2).2))
  have N3 := hide (show ∀ b off, 0 < d.length → dp = some ⟨b, off, none⟩ → blk sp3 ≠ some b from fun b off h1 h2 => (unhide G3).apart (unhide HNE b off h1 h2).1 (unhide HNE b off h1 h2).2)
  clear hg3 ho3 d1 d2 O2 G2
  go_wp2_with fail
  refine (addData_grew base sp3 n3 k3 (l ++ [k] ++ numB t ++ numB i) dp m dc d _ (unhide hn3) (unhide O3) (by have := numB_short t ht; have := numB_short i hi; rw [List.length_append, List.length_append, List.length_append]; simp only [List.length_cons, List.length_nil]; omega) (by exact Nat.le_trans (unhide Hb) (unhide G3).grown.size) (unhide HM) (unhide B3) (unhide HZ) (unhide N3) (by have := unhide HD; omega)).mono ?_
  rintro e W4 ⟨sp4, n4, k4, rfl, hn4, ho4, hg4⟩
  have G4 := hide (Grew.aside (unhide HA) ((unhide G3).trans hg4))
  have hm := unhide HM
  subst hm
  rw [entryB_assoc] at hn4 ho4
  clear hg4
  go_wp2
  go_ret
  exact ⟨sp4, n4, k4, rfl, hn4, ho4, unhide G4⟩

set_option maxHeartbeats 1000000 in
theorem putEntry_yes (k t i : Nat) (dp : Option Addr) (m dc : Nat) (d : List Nat) (w : World) (h : MayE k t i m) (hm : d.length = m) (hB : BytesAt w dp d) (hz : dp = none → dc = 0) (hd : d.length ≤ 2048) :
    Calls Tryz.prog 103 #[entV k t i dp m dc] w fun e w' => ∃ sp n c, e = .returned (.tuple #[.slice sp n c, .int .i64 0]) ∧ Hid ((entryB k t i d).length = n) ∧ OwnB w.heap.size w' sp c (entryB k t i d) ∧ Below w.heap.size w w' := by
  have h0 := heap_new w (entB k t i dp m dc)
  obtain ⟨c0, c1, c2, c3⟩ := entB_cells h0
  have bA : Below w.heap.size w (w.alloc (entB k t i dp m dc)) := (Below.refl _ _).alloc (Nat.le_refl _) _
  have HA := hide bA
  have HX := hide h0
  have HB := hide (hB.later bA)
  have HM := hide hm
  have HZ := hide hz
  have H := hide h
  have hm2 : m ≤ 2048 := by omega
  clear h0 bA hB hm hz h
  go_enter Tryz.func103, Tryz.ntmps103
  go_wp2_with fail
  refine (mayBe_yes k t i dp m dc _ (unhide H)).mono ?_
  rintro e W1 ⟨rfl, b1⟩
  obtain ⟨e0, e1, e2, e3⟩ := entB_cells ((b1.block _ (by rw [size_alloc]; omega)).trans (unhide HX))
  have B1 := hide ((unhide HB).later b1)
  have HA1 := hide ((unhide HA).trans (b1.mono (unhide HA).size))
  clear b1
  go_wp2_with fail
  refine (addEntry_grew W1.heap.size none 0 0 [] k t i dp m dc d _ rfl (OwnB.ofNil _ _) (by simp) (Nat.le_refl _) (by have := (unhide H).1; omega) (by have := (unhide H).2.1; omega) (by have := (unhide H).2.2.1; omega) (unhide HM) (unhide B1) (unhide HZ) (fun _ _ _ _ h => by cases h) (by omega)).mono ?_
  rintro e W2 ⟨sp, n, c, rfl, hn, ho, hg⟩
  rw [List.nil_append] at hn ho
  have HF := hide ((unhide HA1).trans ((hg.below (OwnB.ofNil _ W1.heap.size) (Nat.le_refl _)).mono (unhide HA1).size))
  have HO := hide (ho.mono (unhide HA1).size)
  clear hg ho
  go_wp2
  go_ret2
  exact ⟨sp, n, c, rfl, hn, unhide HO, unhide HF⟩
theorem putEntry_no (k t i : Int) (dp : Option Addr) (m dc : Nat) (w : World) (h : ¬ MayE k t i m) :
    Calls Tryz.prog 103 #[entV k t i dp m dc] w fun e w' => e = .returned (.tuple #[.slice none 0 0, .int .i64 2]) ∧ Below w.heap.size w w' := by
  obtain ⟨c0, c1, c2, c3⟩ := entB_cells (heap_new w (entB k t i dp m dc))
  have bA : Below w.heap.size w (w.alloc (entB k t i dp m dc)) := (Below.refl _ _).alloc (Nat.le_refl _) _
  have HA := hide bA
  have H := hide h
  clear bA h
  go_enter Tryz.func103, Tryz.ntmps103
  go_wp2_with fail
  refine (mayBe_no k t i dp m dc _ (unhide H)).mono ?_
  rintro e W1 ⟨rfl, b1⟩
  have HA1 := hide ((unhide HA).trans (b1.mono (unhide HA).size))
  go_wp2
  go_ret2
  exact ⟨rfl, unhide HA1⟩
theorem putEntry_long (k t i : Int) (dp : Option Addr) (m dc : Nat) (w : World) (h : MayE k t i m) (hd : 2048 < m) :
    Calls Tryz.prog 103 #[entV k t i dp m dc] w fun e w' => e = .returned (.tuple #[.slice none 0 0, .int .i64 6]) ∧ Below w.heap.size w w' := by
  have h0 := heap_new w (entB k t i dp m dc)
  obtain ⟨c0, c1, c2, c3⟩ := entB_cells h0
  have bA : Below w.heap.size w (w.alloc (entB k t i dp m dc)) := (Below.refl _ _).alloc (Nat.le_refl _) _
  have HA := hide bA
  have H := hide h
  have HX := hide h0
  clear bA h h0
  go_enter Tryz.func103, Tryz.ntmps103
  go_wp2_with fail
  refine (mayBe_yes k t i dp m dc _ (unhide H)).mono ?_
  rintro e W1 ⟨rfl, b1⟩
  obtain ⟨e0, e1, e2, e3⟩ := entB_cells ((b1.block _ (by rw [size_alloc]; omega)).trans (unhide HX))
  have HA1 := hide ((unhide HA).trans (b1.mono (unhide HA).size))
  clear b1
  go_wp2
  go_ret2
  exact ⟨rfl, unhide HA1⟩
end Go.Proofs.YtijcpmbfhfppmaaGreatDoor
end
/- Logs: records as bytes. -/
section
namespace Go.Proofs.YtijcpmbfhfppmaaGreatDoor
open Go.ChangeShapes Go.WideShapes Go.ChangeAt Go.RowKit
set_option linter.unusedVariables false

/-- A record in its frame. -/
def recB (k : Nat) (l : List Nat) : List Nat := frameB (k :: l)
theorem recB_length (k : Nat) (l : List Nat) : (recB k l).length = 9 + l.length := by unfold recB; rw [frameB_length, List.length_cons]; omega
theorem recB_lt {k : Nat} {l : List Nat} (hk : k < 256) (hl : ∀ c ∈ l, c < 256) (h : l.length ≤ 60000) : ∀ c ∈ recB k l, c < 256 :=
  frameB_lt (l := k :: l) (fun c hc => by
    rcases List.mem_cons.1 hc with rfl | hc
    · exact hk
    · exact hl c hc) (by rw [List.length_cons]; omega)
set_option maxRecDepth 20000 in
set_option maxHeartbeats 4000000 in
theorem framed_calls (k : Nat) (a : Option Addr) (n c : Nat) (l : List Nat) (w : World) (hk : k < 256) (hn : l.length = n) (hb : BytesAt w a l) (hz : a = none → c = 0) (hl : n ≤ 60000) :
    Calls Tryz.prog 104 #[.int .u8 (k : Int), .slice a n c] w fun e w' => ∃ g m, e = .returned (.slice (some ⟨g, 0, none⟩) m m) ∧ Hid ((recB k l).length = m) ∧ OwnB w.heap.size w' (some ⟨g, 0, none⟩) m (recB k l) ∧ Below w.heap.size w w' := by
  have b1 : Below w.heap.size w (w.alloc (.cells #[.int .u8 (k : Int)] 5)) := (Below.refl _ _).alloc (Nat.le_refl _) _
  have o1 := hide (show OwnB w.heap.size (w.alloc (.cells #[.int .u8 (k : Int)] 5)) (some ⟨w.heap.size, 0, none⟩) 1 [k] from OwnB.ofBlock (l := [k]) (heap_new w _) (Nat.le_refl _) (by simpa using hk) (by simp [maxLen]))
  have HB := hide (hb.later b1)
  have B1 := hide b1
  have HN := hide hn
  have HZ := hide hz
  have HL := hide hb.lt
  have HS := hide (show ([k] : List Nat).length + n ≤ 140737488355328 by simp; omega)
  clear hb b1 hn hz
  go_enter Tryz.func104, Tryz.ntmps104
  go_wp2_with (at_builtin; refine wpList_append8 rfl (.tmp 9) (.tmp 10) rfl w.heap.size (some ⟨w.heap.size, 0, none⟩) 1 1 [k] rfl rfl (by exact unhide o1) a n c rfl l (unhide HN) (by exact unhide HB) (unhide HZ) (unhide HS) (by exact (unhide B1).size) ?_; intro sp2 n2 c2 W2 hn2 ho2 hg2 hb2)
  have O2 := hide ho2
  have B2 := hide ((unhide B1).trans hb2)
  have FC := hide (frame_ok' sp2 n2 c2 (k :: l) W2 (unhide hn2) (by exact ho2.bytes) (by have := unhide HN; rw [List.length_cons]; omega))
  have HM := hide (show (recB k l).length = 8 + n2 by unfold recB; rw [frameB_length, ← unhide hn2]; rfl)
  clear ho2 hg2 hb2
  go_wp2_with fail
  go_at_call 138
  refine (unhide FC).mono ?_
  rintro e W3 ⟨g, rfl, b3, hg, hcs⟩
  have O3 := hide (show OwnB w.heap.size W3 (some ⟨g, 0, none⟩) (8 + n2) (recB k l) by
    have h0 := OwnB.ofBlock (base := w.heap.size) hcs (Nat.le_trans (unhide B2).size hg) (recB_lt hk (unhide HL) (by have := unhide HN; omega)) (by rw [frameB_length, List.length_cons]; have := unhide HN; simp only [maxLen]; omega)
    rw [show (frameB (k :: l)).length = 8 + n2 from unhide HM] at h0
    exact h0)
  have B3 := hide ((unhide B2).trans (b3.mono (unhide B2).size))
  generalize 8 + n2 = m at *
  clear b3 hg hcs
  go_wp2
  go_ret
  exact ⟨g, m, rfl, HM, unhide O3, unhide B3⟩
end Go.Proofs.YtijcpmbfhfppmaaGreatDoor
end
/- Disk: copies of bytes, bytes laid over bytes. -/
section
namespace Go.Proofs.YtijcpmbfhfppmaaGreatDoor
open Go.ChangeShapes Go.WideShapes Go.ChangeAt Go.RowKit

/-- Bytes with others over them from a place on. -/
def overL (l : List Nat) (k : Nat) (o : List Nat) : List Nat := l.take k ++ (o ++ l.drop (k + o.length))
theorem overL_nil (l : List Nat) (k : Nat) : overL l k [] = l := by simp [overL]
theorem overL_length (l : List Nat) (k : Nat) (o : List Nat) (hk : k ≤ l.length) : (overL l k o).length = max l.length (k + o.length) := by
  simp only [overL, List.length_append, List.length_take, List.length_drop]
  omega
theorem overL_lt {l o : List Nat} (k : Nat) (hl : ∀ c ∈ l, c < 256) (ho : ∀ c ∈ o, c < 256) : ∀ c ∈ overL l k o, c < 256 := by
  intro c hc
  simp only [overL, List.mem_append] at hc
  rcases hc with h | h | h
  · exact hl c (List.mem_of_mem_take h)
  · exact ho c h
  · exact hl c (List.mem_of_mem_drop h)
theorem overL_two (l : List Nat) (k n : Nat) (o : List Nat) (hk : k ≤ l.length) (hn : n = min o.length (l.length - k)) : overL l k (o.take n) ++ o.drop n = overL l k o := by
  unfold overL
  by_cases h : o.length ≤ l.length - k
  · have e : n = o.length := by omega
    rw [e, List.take_of_length_le (Nat.le_refl _), List.drop_of_length_le (Nat.le_refl _), List.append_nil]
  · have e : n = l.length - k := by omega
    have h1 : (o.take n).length = n := by rw [List.length_take]; omega
    have h2 : l.drop (k + n) = [] := List.drop_of_length_le (by omega)
    have h3 : l.drop (k + o.length) = [] := List.drop_of_length_le (by omega)
    rw [h1, h2, h3, List.append_nil, List.append_nil, List.append_assoc, List.take_append_drop]
/-- Bytes of one's own, in a block that may be longer than their room. -/
structure Bx (base : Nat) (w : World) (sp : Option Addr) (c : Nat) (l : List Nat) : Prop where
  lt : ∀ x ∈ l, x < 256
  row : (sp = none ∧ c = 0 ∧ l = []) ∨ ∃ (g : Nat) (cur : List Value), sp = some ⟨g, 0, none⟩ ∧ base ≤ g ∧ w.heap[g]? = some (.cells cur.toArray 5 (0, 0)) ∧ l.length ≤ c ∧ c ≤ cur.length ∧ c ≤ maxLen ∧ cur.take l.length = l.map byteV
section
variable {base : Nat} {w w' : World} {sp : Option Addr} {c : Nat} {l : List Nat}
theorem Bx.ofNil (base : Nat) (w : World) : Bx base w none 0 [] := ⟨by simp, .inl ⟨rfl, rfl, rfl⟩⟩
theorem OwnB.toBx (h : OwnB base w sp c l) : Bx base w sp c l := by
  refine ⟨h.lt, ?_⟩
  rcases h.owns.2 with ⟨hv, h1⟩ | ⟨g, cap, cur, hv, hb, hg, hle, hmx, hsz, ht⟩
  · simp only [Value.slice.injEq] at hv
    exact .inl ⟨hv.1, hv.2.2, List.eq_nil_of_length_eq_zero h1⟩
  · simp only [Value.slice.injEq] at hv
    obtain ⟨rfl, _, rfl⟩ := hv
    obtain ⟨cl⟩ := cur
    have h2 : cl.length = c * 1 := hsz
    have h3 : cl.take (l.length * 1) = l.map byteV := ht
    rw [Nat.mul_one] at h2 h3
    exact .inr ⟨g, cl, rfl, hb, hg, hle, by omega, hmx, h3⟩
theorem Bx.bytes (h : Bx base w sp c l) : BytesAt w sp l := by
  refine ⟨h.lt, fun i hi => ?_⟩
  rcases h.row with ⟨_, _, rfl⟩ | ⟨g, cur, rfl, _, hg, _, _, _, ht⟩
  · simp at hi
  · refine ⟨g, 0, rfl, ?_⟩
    rw [cell_of_row w g (0 + i) _ _ _ hg, Nat.zero_add]
    have e : (l.map byteV)[i]? = some (byteV (l.getD i 0)) := by
      rw [List.getElem?_map, List.getElem?_eq_getElem hi, List.getD_eq_getElem?_getD, List.getElem?_eq_getElem hi]; rfl
    rw [← ht, List.getElem?_take, if_pos hi] at e
    have e2 : cur.toArray[i]? = cur[i]? := by simp
    exact e2.trans e
theorem Bx.cap (h : Bx base w sp c l) : l.length ≤ c ∧ c ≤ maxLen := by
  rcases h.row with ⟨_, rfl, rfl⟩ | ⟨g, cur, _, _, _, h1, _, h2, _⟩
  · exact ⟨by simp, by simp [maxLen]⟩
  · exact ⟨h1, h2⟩
theorem Bx.nil0 (h : Bx base w sp c l) : sp = none → c = 0 := by
  intro e
  rcases h.row with ⟨_, h1, _⟩ | ⟨g, cur, h1, _⟩
  · exact h1
  · rw [h1] at e; cases e
theorem Bx.isT (h : Bx base w sp c l) : ∀ g, blk sp = some g → base ≤ g ∧ g < w.heap.size ∧ ∃ cur : Array Value, w.heap[g]? = some (.cells cur 5 (0, 0)) := by
  intro g hg
  rcases h.row with ⟨h1, _⟩ | ⟨g1, cur, h1, hb, hh, _⟩
  · rw [h1] at hg; cases hg
  · rw [h1] at hg
    obtain rfl : g1 = g := by simpa [blk] using hg
    exact ⟨hb, (Array.getElem?_eq_some_iff.1 hh).1, _, hh⟩
theorem Bx.grownNe {o : Option Nat} (h : Bx base w sp c l) (hg : w.grownBy w' o) (hne : ∀ g, blk sp = some g → o ≠ some g) : Bx base w' sp c l := by
  refine ⟨h.lt, ?_⟩
  rcases h.row with hv | ⟨g, cur, h1, hb, hh, r⟩
  · exact .inl hv
  · exact .inr ⟨g, cur, h1, hb, (hg.block g (Array.getElem?_eq_some_iff.1 hh).1 (fun e => hne g (by rw [h1]; rfl) e.symm)).trans hh, r⟩
theorem Bx.later (h : Bx base w sp c l) (hb : Below w.heap.size w w') : Bx base w' sp c l := by
  refine ⟨h.lt, ?_⟩
  rcases h.row with hv | ⟨g, cur, h1, hbg, hh, r⟩
  · exact .inl hv
  · exact .inr ⟨g, cur, h1, hbg, (hb.block g (Array.getElem?_eq_some_iff.1 hh).1).trans hh, r⟩
theorem Bx.mono {base' : Nat} (h : Bx base w sp c l) (hb : base' ≤ base) : Bx base' w sp c l := by
  refine ⟨h.lt, ?_⟩
  rcases h.row with hv | ⟨g, cur, h1, hbg, r⟩
  · exact .inl hv
  · exact .inr ⟨g, cur, h1, by omega, r⟩
theorem Bx.ne_block (h : Bx base w sp c l) {g : Nat} {cs : Array Value} {T : TypeId} {fr : Nat × Nat} (hg : w.heap[g]? = some (.cells cs T fr)) (hT : T ≠ 5) : blk sp ≠ some g := by
  intro hs
  obtain ⟨_, _, cur, hc⟩ := h.isT g hs
  rw [hc] at hg
  simp only [Option.some.injEq, Obj.cells.injEq] at hg
  exact hT hg.2.1.symm
/-- b[:k] and b[:k:m]. -/
theorem Bx.cut (h : Bx base w sp c l) (k m : Nat) (hk : k ≤ l.length) (hkm : k ≤ m) (hm : m ≤ c) : Bx base w sp m (l.take k) := by
  refine ⟨fun x hx => h.lt x (List.mem_of_mem_take hx), ?_⟩
  have hl : (l.take k).length = k := by rw [List.length_take]; omega
  rcases h.row with ⟨h1, h2, h3⟩ | ⟨g, cur, h1, hb, hg, h2, h3, h4, ht⟩
  · subst h3
    exact .inl ⟨h1, by omega, by simp⟩
  · refine .inr ⟨g, cur, h1, hb, hg, by omega, by omega, by omega, ?_⟩
    rw [hl, List.map_take, ← ht, List.take_take]
    congr 1
    omega
theorem slp_zero (sp : Option Addr) (m : Nat) (h : ∀ ad, sp = some ad → ∃ g, ad = ⟨g, 0, none⟩) : slp sp 0 m = sp := by
  unfold slp
  split
  · rfl
  · cases sp with
    | none => rfl
    | some ad =>
      obtain ⟨g, rfl⟩ := h ad rfl
      simp [Addr.add_lit]
theorem Bx.slp0 (h : Bx base w sp c l) (m : Nat) : slp sp 0 m = sp := slp_zero sp m fun ad e => by
  rcases h.row with ⟨h1, _⟩ | ⟨g, cur, h1, _⟩
  · rw [h1] at e; cases e
  · rw [h1] at e; cases e; exact ⟨g, rfl⟩
theorem grown_setRow (w : World) (g : Nat) (cs : Array Value) : w.grownBy (w.setRow g cs) (some g) :=
  ⟨rfl, rfl, rfl, by simp, fun i _ hne => setRow_other w g i cs (fun e => hne (by rw [e]))⟩
/-- append onto such bytes. -/
theorem run_appendBx (h : Bx base w sp c l) (xp : Option Addr) (m xc : Nat) (k : List Nat) (hk : k.length = m) (hB : BytesAt w xp k) (hx0 : xp = none → xc = 0) (hsz : l.length + m ≤ 140737488355328) (hbase : base ≤ w.heap.size) (ty : TypeId) :
    ∃ sp' c' w', (Builtin.append_ #[58, 58] ty #[.slice sp l.length c, .slice xp m xc]).run Tryz.prog w = .ok (.slice sp' (l ++ k).length c') w' ∧ Bx base w' sp' c' (l ++ k) ∧ Grew w sp w' sp' := by
  rcases h.row with ⟨rfl, rfl, rfl⟩ | ⟨g, cur, rfl, hbg, hg, hle, hcc, hmx, ht⟩
  · obtain ⟨sp', c', w', h1, h2, h3, h4⟩ := run_append8L base none 0 [] (OwnB.ofNil w base) xp m xc k hk hB hx0 hsz hbase ty
    exact ⟨sp', c', w', h1, h2.toBx, h3, h4⟩
  · subst hk
    obtain ⟨i0, hi, hz0, hz1, hz2⟩ := info_parts info8
    cases xp with
    | none =>
      have hk0 : k = [] := by
        cases k with
        | nil => rfl
        | cons x r => obtain ⟨b, off, h, _⟩ := hB.cell 0 (by simp); cases h
      subst hk0
      rw [hx0 rfl]
      refine ⟨some ⟨g, 0, none⟩, c, w, ?_, by rw [List.append_nil]; exact h, Grew.refl _ _⟩
      rw [List.append_nil]
      simp [Builtin.append_, run_underlying Tryz.underlying58, sizeOf, typeInfo, hi, Builtin.lenOf, Builtin.firstCells, hle, storeCells]
    | some ad =>
      have hnews : ∀ j u, (k.map byteV)[j]? = some u → w.cell? (ad.add j) = some u := fun j u hu => by
        have h0 : 0 < (k.map byteV).length := by
          rcases Nat.eq_zero_or_pos (k.map byteV).length with h | h
          · rw [List.getElem?_eq_none (by omega)] at hu; cases hu
          · exact h
        obtain ⟨ad', had, hc⟩ := cells_of_bytesAt hB h0
        cases had
        exact hc j u hu
      have hlt : ∀ x ∈ l ++ k, x < 256 := fun x hx => (List.mem_append.1 hx).elim (h.lt x) (hB.lt x)
      by_cases hroom : l.length + k.length ≤ c
      · have hrun := run_append_room (P := Tryz.prog) w 58 ty 5 i0 Tryz.underlying58 hi g l.length c cur.toArray hg ad k.length xc (k.map byteV) (by rw [hz1]; simp) hnews (oneCell_bytes k) hroom (by rw [hz1]; simp; omega)
        refine ⟨some ⟨g, 0, none⟩, c, _, by rw [List.length_append]; exact hrun, ⟨hlt, .inr ⟨g, _, rfl, hbg, setRow_heap w g _ _ _ _ hg, by rw [List.length_append]; exact hroom, ?_, hmx, ?_⟩⟩, ⟨grown_setRow _ _ _, fun g' hg' => .inl hg'⟩⟩
        · rw [hz1]; simp; omega
        · rw [hz1]
          have hm : (cur.take l.length ++ k.map byteV).length = l.length + k.length := by simp; omega
          have hc2 : (cur.take l.length ++ k.map byteV ++ cur.drop (l.length + k.length)).take (l.length + k.length) = l.map byteV ++ k.map byteV := by
            rw [← hm, List.take_left, ht]
          simpa using hc2
      · obtain ⟨v', w', hrun, h1, h2⟩ := run_append_arg_grows (P := Tryz.prog) (w := w) 58 ty 5 i0 (.int .u8 0) 1 1 Tryz.underlying58 hi hz0 hz1 hz2 rfl (by omega) ⟨g, 0, none⟩ l.length c (l.map byteV) (by simp) (by
          intro j u hu
          rw [Addr.add_lit, Nat.zero_add, cell_of_row w g j _ _ _ hg]
          have hj : j < l.length := by have := (List.getElem?_eq_some_iff.1 hu).1; simpa using this
          rw [← ht, List.getElem?_take, if_pos hj] at hu
          simpa using hu) ad k.length xc (k.map byteV) (by simp) hnews (by omega) (by simp only [maxLen]; omega) (by omega)
        rw [← List.map_append] at h1
        rcases h1.2 with ⟨hv, h3⟩ | ⟨g', cap, cur', hv, hb', hg', hle', hmx', hsz', ht'⟩
        · omega
        · obtain ⟨cl⟩ := cur'
          have h4 : cl.length = cap * 1 := hsz'
          have h5 : cl.take ((l.length + k.length) * 1) = (l ++ k).map byteV := ht'
          rw [Nat.mul_one] at h4 h5
          refine ⟨some ⟨g', 0, none⟩, cap, w', by rw [hrun, hv, List.length_append], ⟨hlt, .inr ⟨g', cl, rfl, by omega, hg', by rw [List.length_append]; exact hle', by omega, hmx', by rw [List.length_append]; exact h5⟩⟩, ⟨?_, fun g2 hg2 => .inr ?_⟩⟩
          · exact ⟨h2.os, h2.tape, h2.output, h2.size, fun j hj _ => h2.block j hj (by simp)⟩
          · obtain rfl : g' = g2 := by simpa [blk] using hg2
            exact hb'
end
end Go.Proofs.YtijcpmbfhfppmaaGreatDoor
end
