/- The document's answers of layer 2: GetHard, add, PutHard. -/
import Derived.Test.YtmnpokjccbafdaaRsc
namespace Go.Proofs.Ytmnpokjccbafdaa
open Go.ChangeShapes Go.WideShapes Go.ChangeAt Go.RowKit

theorem sc_new {w W : World} {a : Option Addr} {c : Nat} {l : List Nat} {S : Nat} (hb : BytesAt w a l) (hW : Below w.heap.size w W) (hS : w.heap.size ≤ S) (hblk : W.heap[S]? = some (.cells #[.slice a l.length c, .int .i64 0, .int .i64 0] 58 (0, 0))) : ScAt S W a c l 0 0 :=
  ⟨hblk, hb.later hW, fun b off h0 e => by have := block_lt hb h0 b off e; omega, Nat.zero_le _⟩
/-- A hard state's fault, behind both numbers. -/
def hardS (v x : Nat) : Nat := if x = 0 ∧ 9 < v then 4 else x
def scanHardV (l : List Nat) (t v k x : Nat) : Value := if endS l k (hardS v x) = 0 then .tuple #[.agg #[.int .i64 (t : Int), .int .i64 (v : Int)], .int .i64 0] else .tuple #[.agg #[.int .i64 0, .int .i64 0], .int .i64 ((endS l k (hardS v x) : Nat) : Int)]
set_option maxHeartbeats 1000000 in
theorem refGetHard_walk (a : Option Addr) (m c : Nat) (l : List Nat) (t k1 x1 v k2 x2 : Nat) (w : World) (hm : l.length = m) (hl : l.length ≤ 140737488355328) (hb : BytesAt w a l) (h1 : numS l 0 0 0 = (t, k1, x1)) (h2 : numS l 0 k1 x1 = (v, k2, x2)) :
    Calls Try.prog 22 #[.slice a m c] w fun e w' => e = .returned (scanHardV l t v k2 x2) ∧ Below w.heap.size w w' := by
  subst hm
  have HB := hide hb
  have HL := hide hl
  have N1 := hide h1
  have N2 := hide h2
  clear hb hl h1 h2
  go_enter Try.func22, Try.ntmps22
  go_wp2_with fail
  have r0 := heap_old (.cells #[.slice a l.length c, .int .i64 0, .int .i64 0] 58) (heap_new w (.cells #[.int .i64 0, .int .i64 0] 42))
  have s0 := heap_new (w.alloc (.cells #[.int .i64 0, .int .i64 0] 42)) (.cells #[.slice a l.length c, .int .i64 0, .int .i64 0] 58)
  rw [size_alloc] at s0
  have hbl : Below w.heap.size w ((w.alloc (.cells #[.int .i64 0, .int .i64 0] 42)).alloc (.cells #[.slice a l.length c, .int .i64 0, .int .i64 0] 58)) :=
    ((Below.refl _ _).alloc (Nat.le_refl _) _).alloc (by rw [size_alloc]; omega) _
  generalize (w.alloc (.cells #[.int .i64 0, .int .i64 0] 42)).alloc (.cells #[.slice a l.length c, .int .i64 0, .int .i64 0] 58) = W at *
  have S0 := hide (sc_new (unhide HB) hbl (Nat.le_succ _) s0)
  have F0 := hide hbl
  have R0 := hide r0
  clear r0 s0 hbl
  refine (num_calls (w.heap.size + 1) a c l 0 0 0 _ (unhide S0) (unhide HL)).mono ?_
  rw [unhide N1]
  rintro e W1 ⟨rfl, s1, g1⟩
  have R1 := hide (grown_block g1 (unhide R0) (by omega))
  have F1 := hide ((unhide F0).grown g1 (unhide F0).size (fun j e => by have := Option.some.inj e; omega))
  have S1 := hide s1
  clear s1 g1 R0 F0 S0
  go_wp2_with fail
  refine (num_calls (w.heap.size + 1) a c l 0 k1 x1 _ (unhide S1) (unhide HL)).mono ?_
  rw [unhide N2]
  rintro e W2 ⟨rfl, s2, g2⟩
  have R2 := hide (grown_block g2 (unhide R1) (by omega))
  have F2 := hide ((unhide F1).grown g2 (unhide F1).size (fun j e => by have := Option.some.inj e; omega))
  obtain ⟨_, _, c2, _, _⟩ := s2.cells
  have S2 := hide s2
  clear s2 g2 R1 F1 S1
  by_cases hx : x2 = 0
  · subst hx
    by_cases h9 : 9 < v
    · have hH := hide (show hardS v 0 = 4 by rw [hardS, if_pos ⟨rfl, h9⟩])
      have hE := hide (show endS l k2 4 = 4 by rw [endS, if_neg (fun h => by omega)])
      go_wp2_with fail
      refine (fail_calls (w.heap.size + 1) a c l k2 4 _ (unhide S2)).mono ?_
      rintro e W3 ⟨rfl, s3, g3⟩
      have R3 := hide (grown_block g3 (unhide R2) (by omega))
      have F3 := hide ((unhide F2).grown g3 (unhide F2).size (fun j e => by have := Option.some.inj e; omega))
      have S3 := hide s3
      clear s3 g3 R2 F2 S2 c2
      go_wp2_with fail
      refine (scanEnd_calls (w.heap.size + 1) a c l k2 4 _ (unhide S3)).mono ?_
      rw [unhide hE]
      rintro e W4 ⟨rfl, s4, g4⟩
      have R4 := hide (grown_block g4 (unhide R3) (by omega))
      have F4 := hide ((unhide F3).grown g4 (unhide F3).size (fun j e => by have := Option.some.inj e; omega))
      obtain ⟨_, _, c4, _, _⟩ := s4.cells
      obtain ⟨p0, p1, f0, f1⟩ := pair_cells (unhide R4)
      clear s4 g4 R3 F3 S3
      go_wp2_with fail
      go_region_held3 (fun w' => w'.cell? ⟨w.heap.size + 1, 2, none⟩ = some (.int .i64 4)) (go_keep) (fail)
      go_wp2_with fail
      have q5 := heap_setCell_same W4 w.heap.size 0 _ 42 (.int .i64 0) (unhide R4)
      have q6 := heap_setCell_same _ w.heap.size 1 _ 42 (.int .i64 0) q5
      obtain ⟨z0, z1, _, _⟩ := pair_cells q6
      have y0 : ((W4.setCell ⟨w.heap.size, 0, none⟩ (.int .i64 0)).setCell ⟨w.heap.size, 1, none⟩ (.int .i64 0)).drew.cell? ⟨w.heap.size, 0, none⟩ = _ := z0
      have y1 : ((W4.setCell ⟨w.heap.size, 0, none⟩ (.int .i64 0)).setCell ⟨w.heap.size, 1, none⟩ (.int .i64 0)).drew.cell? ⟨w.heap.size, 1, none⟩ = _ := z1
      refine bodyPost_ret (v := .tuple #[.agg #[.int .i64 0, .int .i64 0], .int .i64 4]) (by simp [results, Try.results22, go_sem, y0, y1]) rfl ?_
      exact ⟨by rw [scanHardV, unhide hH, unhide hE]; rfl, (((unhide F4).setCell (p := ⟨w.heap.size, 0, none⟩) (Nat.le_refl _) _).setCell (p := ⟨w.heap.size, 1, none⟩) (Nat.le_refl _) _).drew⟩
    · have hH := hide (show hardS v 0 = 0 by rw [hardS, if_neg (fun h => h9 h.2)])
      by_cases hk : k2 < l.length
      · have hE := hide (show endS l k2 0 = 4 by rw [endS, if_pos ⟨rfl, hk⟩])
        clear hk
        go_wp2_with fail
        refine (scanEnd_calls (w.heap.size + 1) a c l k2 0 _ (unhide S2)).mono ?_
        rw [unhide hE]
        rintro e W4 ⟨rfl, s4, g4⟩
        have R4 := hide (grown_block g4 (unhide R2) (by omega))
        have F4 := hide ((unhide F2).grown g4 (unhide F2).size (fun j e => by have := Option.some.inj e; omega))
        obtain ⟨_, _, c4, _, _⟩ := s4.cells
        obtain ⟨p0, p1, f0, f1⟩ := pair_cells (unhide R4)
        clear s4 g4 R2 F2 S2
        go_wp2_with fail
        go_region_held3 (fun w' => w'.cell? ⟨w.heap.size + 1, 2, none⟩ = some (.int .i64 4)) (go_keep) (fail)
        go_wp2_with fail
        have q5 := heap_setCell_same W4 w.heap.size 0 _ 42 (.int .i64 0) (unhide R4)
        have q6 := heap_setCell_same _ w.heap.size 1 _ 42 (.int .i64 0) q5
        obtain ⟨z0, z1, _, _⟩ := pair_cells q6
        have y0 : ((W4.setCell ⟨w.heap.size, 0, none⟩ (.int .i64 0)).setCell ⟨w.heap.size, 1, none⟩ (.int .i64 0)).drew.cell? ⟨w.heap.size, 0, none⟩ = _ := z0
        have y1 : ((W4.setCell ⟨w.heap.size, 0, none⟩ (.int .i64 0)).setCell ⟨w.heap.size, 1, none⟩ (.int .i64 0)).drew.cell? ⟨w.heap.size, 1, none⟩ = _ := z1
        refine bodyPost_ret (v := .tuple #[.agg #[.int .i64 0, .int .i64 0], .int .i64 4]) (by simp [results, Try.results22, go_sem, y0, y1]) rfl ?_
        exact ⟨by rw [scanHardV, unhide hH, unhide hE]; rfl, (((unhide F4).setCell (p := ⟨w.heap.size, 0, none⟩) (Nat.le_refl _) _).setCell (p := ⟨w.heap.size, 1, none⟩) (Nat.le_refl _) _).drew⟩
      · have hE := hide (show endS l k2 0 = 0 by rw [endS, if_neg (fun h => hk h.2)])
        clear hk
        go_wp2_with fail
        refine (scanEnd_calls (w.heap.size + 1) a c l k2 0 _ (unhide S2)).mono ?_
        rw [unhide hE]
        rintro e W4 ⟨rfl, s4, g4⟩
        have R4 := hide (grown_block g4 (unhide R2) (by omega))
        have F4 := hide ((unhide F2).grown g4 (unhide F2).size (fun j e => by have := Option.some.inj e; omega))
        obtain ⟨_, _, c4, _, _⟩ := s4.cells
        obtain ⟨p0, p1, f0, f1⟩ := pair_cells (unhide R4)
        clear s4 g4 R2 F2 S2
        go_wp2_with fail
        have q5 := heap_setCell_same W4 w.heap.size 0 _ 42 (.int .i64 (t : Int)) (unhide R4)
        have q6 := heap_setCell_same _ w.heap.size 1 _ 42 (.int .i64 (v : Int)) q5
        obtain ⟨z0, z1, _, _⟩ := pair_cells q6
        refine bodyPost_ret (v := .tuple #[.agg #[.int .i64 (t : Int), .int .i64 (v : Int)], .int .i64 0]) (by simp [results, Try.results22, go_sem, z0, z1]) rfl ?_
        exact ⟨by rw [scanHardV, unhide hH, unhide hE]; rfl, ((unhide F4).setCell (p := ⟨w.heap.size, 0, none⟩) (Nat.le_refl _) _).setCell (p := ⟨w.heap.size, 1, none⟩) (Nat.le_refl _) _⟩
  · have hH := hide (show hardS v x2 = x2 by rw [hardS, if_neg (fun h => hx h.1)])
    have hE := hide (show endS l k2 x2 = x2 by rw [endS, if_neg (fun h => hx h.1)])
    have hx0 : ¬ (x2 : Int) = 0 := by omega
    have hX := hide hx
    clear hx
    go_wp2_with fail
    refine (scanEnd_calls (w.heap.size + 1) a c l k2 x2 _ (unhide S2)).mono ?_
    rw [unhide hE]
    rintro e W4 ⟨rfl, s4, g4⟩
    have R4 := hide (grown_block g4 (unhide R2) (by omega))
    have F4 := hide ((unhide F2).grown g4 (unhide F2).size (fun j e => by have := Option.some.inj e; omega))
    obtain ⟨_, _, c4, _, _⟩ := s4.cells
    obtain ⟨p0, p1, f0, f1⟩ := pair_cells (unhide R4)
    clear s4 g4 R2 F2 S2
    go_wp2_with fail
    go_region_held3 (fun w' => w'.cell? ⟨w.heap.size + 1, 2, none⟩ = some (.int .i64 (x2 : Int))) (go_keep) (fail)
    go_wp2_with fail
    have q5 := heap_setCell_same W4 w.heap.size 0 _ 42 (.int .i64 0) (unhide R4)
    have q6 := heap_setCell_same _ w.heap.size 1 _ 42 (.int .i64 0) q5
    obtain ⟨z0, z1, _, _⟩ := pair_cells q6
    have y0 : ((W4.setCell ⟨w.heap.size, 0, none⟩ (.int .i64 0)).setCell ⟨w.heap.size, 1, none⟩ (.int .i64 0)).drew.cell? ⟨w.heap.size, 0, none⟩ = _ := z0
    have y1 : ((W4.setCell ⟨w.heap.size, 0, none⟩ (.int .i64 0)).setCell ⟨w.heap.size, 1, none⟩ (.int .i64 0)).drew.cell? ⟨w.heap.size, 1, none⟩ = _ := z1
    refine bodyPost_ret (v := .tuple #[.agg #[.int .i64 0, .int .i64 0], .int .i64 (x2 : Int)]) (by simp [results, Try.results22, go_sem, y0, y1]) rfl ?_
    exact ⟨by rw [scanHardV, unhide hH, unhide hE, if_neg (unhide hX)], (((unhide F4).setCell (p := ⟨w.heap.size, 0, none⟩) (Nat.le_refl _) _).setCell (p := ⟨w.heap.size, 1, none⟩) (Nat.le_refl _) _).drew⟩
theorem hardS_bad {v x : Nat} (hx : x ≠ 0) : hardS v x = x := by rw [hardS, if_neg (fun h => hx h.1)]
theorem endS_bad {l : List Nat} {k x : Nat} (hx : x ≠ 0) : endS l k x = x := by rw [endS, if_neg (fun h => hx h.1)]
theorem hardS_big {v : Nat} (h : 9 < v) : hardS v 0 = 4 := by rw [hardS, if_pos ⟨rfl, h⟩]
theorem hardS_ok {v : Nat} (h : ¬ 9 < v) : hardS v 0 = 0 := by rw [hardS, if_neg (fun h' => h h'.2)]
theorem endS_more {l : List Nat} {k : Nat} (h : k < l.length) : endS l k 0 = 4 := by rw [endS, if_pos ⟨rfl, h⟩]
theorem endS_ok {l : List Nat} {k : Nat} (h : ¬ k < l.length) : endS l k 0 = 0 := by rw [endS, if_neg (fun h' => h h'.2)]
theorem refGetHard_calls (a : Option Addr) (m c : Nat) (l : List Nat) (w : World) (hm : l.length = m) (hl : l.length ≤ 140737488355328) (hb : BytesAt w a l) :
    Calls Try.prog 22 #[.slice a m c] w fun e w' => e = .returned (hardV (wholeE l (hardE l 0))) ∧ Below w.heap.size w w' := by
  have key : ∀ (t k1 x1 v k2 x2 : Nat), numS l 0 0 0 = (t, k1, x1) → numS l 0 k1 x1 = (v, k2, x2) → scanHardV l t v k2 x2 = hardV (wholeE l (hardE l 0)) → Calls Try.prog 22 #[.slice a m c] w fun e w' => e = .returned (hardV (wholeE l (hardE l 0))) ∧ Below w.heap.size w w' := by
    intro t k1 x1 v k2 x2 h1 h2 h3
    rw [← h3]
    exact refGetHard_walk a m c l t k1 x1 v k2 x2 w hm hl hb h1 h2
  cases h1 : takeE l 0 with
  | error y =>
    have hy := takeE_pos h1
    refine key 0 0 y 0 0 y (by simp only [numS, h1]; rfl) (by rw [numS, if_pos hy]) ?_
    rw [scanHardV, hardS_bad hy, endS_bad hy, if_neg hy, hardE, h1]
    rfl
  | ok p =>
    obtain ⟨t, k1⟩ := p
    have e1 : numS l 0 0 0 = (t, k1, 0) := by simp only [numS, h1]; rfl
    cases h2 : takeE l k1 with
    | error y =>
      have hy := takeE_pos h2
      refine key t k1 0 0 k1 y e1 (by simp only [numS, h2]; rfl) ?_
      rw [scanHardV, hardS_bad hy, endS_bad hy, if_neg hy, hardE, h1]
      simp only [h2]
      rfl
    | ok p =>
      obtain ⟨v, k2⟩ := p
      refine key t k1 0 v k2 0 e1 (by simp only [numS, h2]; rfl) ?_
      rw [scanHardV, hardE, h1]
      simp only [h2]
      by_cases h9 : 9 < v
      · rw [hardS_big h9, if_pos h9, endS_bad (by decide)]
        rfl
      · rw [hardS_ok h9, if_neg h9]
        by_cases hk : k2 < l.length
        · rw [endS_more hk, wholeE]
          simp only [if_pos hk]
          rfl
        · rw [endS_ok hk, wholeE]
          simp only [if_neg hk]
          rfl
theorem refAdd_calls (base : Nat) (sp : Option Addr) (n0 c : Nat) (l : List Nat) (n : Nat) (w : World) (hn0 : l.length = n0) (hown : OwnB base w sp c l) (hl : l.length ≤ 1099511627776) (hn : n ≤ 1099511627776) (hbase : base ≤ w.heap.size) :
    Calls Try.prog 31 #[.slice sp n0 c, .int .i64 (n : Int)] w fun e w' => ∃ sp' n' c', e = .returned (.slice sp' n' c') ∧ Hid ((l ++ numB n).length = n') ∧ OwnB base w' sp' c' (l ++ numB n) ∧ Grew w sp w' sp' := by
  have HO := hide hown
  have HN := hide hn0
  have Hb := hide hbase
  have H6 := hide (numB_short n hn)
  clear hown hn0 hbase
  go_enter Try.func31, Try.ntmps31
  go_wp2_with fail
  refine (refNumber_yes n _ hn).mono ?_
  rintro e W1 ⟨sp1, n1, c1, rfl, hn1, ho1, hb1⟩
  have B1 := hide ho1.bytes
  have O1 := hide ((unhide HO).later hb1)
  have F1 := hide hb1
  have Z1 := hide (show sp1 = none → c1 = 0 by
    intro e
    subst e
    rcases ho1.owns.2 with ⟨hv, _⟩ | ⟨g, cap, cur, hv, _⟩
    · simp only [Value.slice.injEq] at hv; exact hv.2.2
    · cases hv)
  clear ho1 hb1
  go_wp2_with (at_builtin; refine wpList_append8L rfl (.tmp 12) (.tmp 13) rfl base sp n0 c l rfl (unhide HN) (by exact unhide O1) sp1 n1 c1 rfl (numB n) (unhide hn1) (by exact unhide B1) (unhide Z1) (by have := unhide H6; have := unhide hn1; omega) (by exact Nat.le_trans (unhide Hb) (unhide F1).size) ?_; intro sp2 n2 c2 W2 hn2 ho2 hg2 hl2)
  go_ret
  exact ⟨sp2, n2, c2, rfl, hn2, ho2, Grew.aside (unhide F1) ⟨hg2, hl2⟩⟩
theorem OwnB.drew {base : Nat} {w : World} {sp : Option Addr} {c : Nat} {l : List Nat} (h : OwnB base w sp c l) : OwnB base w.drew sp c l := ⟨h.owns, h.lt⟩
set_option maxHeartbeats 1000000 in
theorem refPutHard_yes (t v : Nat) (w : World) (ht : t ≤ 1099511627776) (hv : v ≤ 9) :
    Calls Try.prog 20 #[.agg #[.int .i64 (t : Int), .int .i64 (v : Int)]] w fun e w' => ∃ sp n c, e = .returned (.tuple #[.slice sp n c, .int .i64 0]) ∧ Hid ((numB t ++ numB v).length = n) ∧ OwnB w.heap.size w' sp c (numB t ++ numB v) ∧ Below w.heap.size w w' := by
  have h0 := heap_new w (.cells #[.int .i64 (t : Int), .int .i64 (v : Int)] 42)
  obtain ⟨c0, c1, _, _⟩ := pair_cells h0
  have bA := hide (show Below w.heap.size w (w.alloc (.cells #[.int .i64 (t : Int), .int .i64 (v : Int)] 42)) from (Below.refl _ _).alloc (Nat.le_refl _) _)
  have hsz := hide (size_alloc w (.cells #[.int .i64 (t : Int), .int .i64 (v : Int)] 42))
  have hl6 := hide (numB_short t ht)
  clear h0
  go_enter Try.func20, Try.ntmps20
  go_wp2_with fail
  generalize w.alloc _ = W at *
  have hb0 := hide (show Below (w.heap.size + 1) W (W.alloc (.cells #[] 5)).drew from ((Below.refl _ _).alloc (Nat.le_of_eq (unhide hsz).symm) _).drew)
  have o0 := hide ((OwnB.empty W (w.heap.size + 1) (Nat.le_of_eq (unhide hsz).symm)).drew)
  go_region_held3 (fun w' => w'.cell? ⟨w.heap.size, 0, none⟩ = some (.int .i64 (t : Int)) ∧ w'.cell? ⟨w.heap.size, 1, none⟩ = some (.int .i64 (v : Int)))
    (first
      | exact ⟨((((unhide hb0).trans hb1).trans hb2).cell (p := ⟨w.heap.size, 0, none⟩) (Nat.lt_succ_self _)).trans c0, ((((unhide hb0).trans hb1).trans hb2).cell (p := ⟨w.heap.size, 1, none⟩) (Nat.lt_succ_self _)).trans c1⟩
      | exact ⟨(((unhide hb0).trans hb1).cell (p := ⟨w.heap.size, 0, none⟩) (Nat.lt_succ_self _)).trans c0, (((unhide hb0).trans hb1).cell (p := ⟨w.heap.size, 1, none⟩) (Nat.lt_succ_self _)).trans c1⟩
      | exact ⟨c0, c1⟩
      | go_keep)
    (first
      | (go_at_call_of 31 (Value.slice (some ⟨W.heap.size, 0, none⟩) 0 0); refine (refAdd_calls (w.heap.size + 1) (some ⟨W.heap.size, 0, none⟩) 0 0 [] t _ rfl (by exact unhide o0) (by simp) ht (by exact Nat.le_trans (Nat.le_of_eq (unhide hsz).symm) (unhide hb0).size)).mono ?_; rintro e W1 ⟨sp1, n1, k1, rfl, hn1, ho1, hg1⟩; have hb1 := hg1.below (unhide o0) (by exact Nat.le_trans (Nat.le_of_eq (unhide hsz).symm) (unhide hb0).size))
      | (go_at_call_of 31 (Value.slice sp1 n1 k1); refine (refAdd_calls (w.heap.size + 1) sp1 n1 k1 ([] ++ numB t) v _ (unhide hn1) ho1 (by have := unhide hl6; simp only [List.nil_append]; omega) (by omega) (by exact Nat.le_trans (Nat.le_of_eq (unhide hsz).symm) ((unhide hb0).trans hb1).size)).mono ?_; rintro e W2 ⟨sp2, n2, k2, rfl, hn2, ho2, hg2⟩; have hb2 := hg2.below ho1 (by exact Nat.le_trans (Nat.le_of_eq (unhide hsz).symm) ((unhide hb0).trans hb1).size)))
  rw [List.nil_append] at hn2 ho2
  have HF := hide ((unhide bA).trans ((((unhide hb0).trans hb1).trans hb2).mono (Nat.le_succ _)))
  have HO := hide (ho2.mono (Nat.le_succ _))
  clear hb1 hb2 ho1 ho2 hn1 hg1 hg2
  go_wp2
  go_ret2
  exact ⟨sp2, n2, k2, rfl, hn2, unhide HO, unhide HF⟩
theorem refPutHard_no (t v : Int) (w : World) (h : ¬ (0 ≤ t ∧ t ≤ 1099511627776 ∧ 0 ≤ v ∧ v ≤ 9)) :
    Calls Try.prog 20 #[.agg #[.int .i64 t, .int .i64 v]] w fun e w' => e = .returned (.tuple #[.slice none 0 0, .int .i64 2]) ∧ Below w.heap.size w w' := by
  have h0 := heap_new w (.cells #[.int .i64 t, .int .i64 v] 42)
  obtain ⟨c0, c1, _, _⟩ := pair_cells h0
  have bA := hide (show Below w.heap.size w (w.alloc (.cells #[.int .i64 t, .int .i64 v] 42)) from (Below.refl _ _).alloc (Nat.le_refl _) _)
  have H := hide h
  clear h0 h
  go_enter Try.func20, Try.ntmps20
  by_cases h1 : 0 ≤ t
  · by_cases h2 : t ≤ 1099511627776
    · by_cases h3 : 0 ≤ v
      · have h4 : ¬ v ≤ 9 := fun h4 => unhide H ⟨h1, h2, h3, h4⟩
        go_wp2
        go_ret2
        exact ⟨rfl, unhide bA⟩
      · go_wp2
        go_ret2
        exact ⟨rfl, unhide bA⟩
    · go_wp2
      go_ret2
      exact ⟨rfl, unhide bA⟩
  · go_wp2
    go_ret2
    exact ⟨rfl, unhide bA⟩
end Go.Proofs.Ytmnpokjccbafdaa
