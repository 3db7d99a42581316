/- Conf: targets and pools appended to bytes of one's own. -/
import Derived.Test.YtpkpnedcecjlbaaGreatDoorB20
section
namespace Go.Proofs.YtpkpnedcecjlbaaGreatDoor
open Go.ChangeShapes Go.WideShapes Go.ChangeAt Go.RowKit
set_option linter.unusedVariables false

theorem tgB_len (t : Tgt) (h : t.1.size ≤ 1000000) : (tgB t).length ≤ 1000014 := by
  unfold tgB
  rw [List.length_append, wtBy_len]
  have := txB_len t.1 (by omega)
  omega
theorem nsB1 (n : Nat) : numsB [n] = numB n := by simp [numsB]
theorem txB1 (s : ByteArray) : txsB [s] = txB s := by simp [txsB]
theorem Grew.aside2 {w w1 w' : World} {sp sp' : Option Addr} (h : Grew w sp w1 sp') (hb : Below w1.heap.size w1 w') : Grew w sp w' sp' :=
  ⟨⟨hb.os.trans h.grown.os, hb.tape.trans h.grown.tape, hb.output.trans h.grown.output, Nat.le_trans h.grown.size hb.size, fun j hj hne => (hb.block j (Nat.lt_of_lt_of_le hj h.grown.size)).trans (h.grown.block j hj hne)⟩, h.lies⟩
theorem below_own {base : Nat} {w0 U U' : World} {s s' : Option Addr} {k : Nat} {q : List Nat} (hb0 : w0.heap.size ≤ base) (ho : OwnB base U s k q) (hg : Grew U s U' s') (hb : base ≤ U.heap.size) (hw : Below w0.heap.size w0 U) : Below w0.heap.size w0 U' := hw.trans ((hg.below ho hb).mono hb0)
theorem tyne2 : (43 : TypeId) ≠ 5 ∧ (93 : TypeId) ≠ 5 ∧ (67 : TypeId) ≠ 5 ∧ (53 : TypeId) ≠ 5 := by decide
set_option maxRecDepth 20000 in
set_option maxHeartbeats 8000000 in
theorem addTargets_calls (base : Nat) {w0 w : World} {a : Option Addr} {ts : List Tgt} (hT : TgsAt w0 a ts) (h0 : Below w0.heap.size w0 w) (hb0 : w0.heap.size ≤ base) {sp : Option Addr} {n0 c : Nat} {l : List Nat} (hn0 : l.length = n0) (hown : OwnB base w sp c l) (m mc : Nat) (hm : ts.length = m)
    (hts : ∀ t ∈ ts, t.1.size ≤ 1000000) (hsz : l.length + 6 + 1000014 * m ≤ 140737488355328) (hm2 : m ≤ 1000) (hbase : base ≤ w.heap.size) :
    Calls Tryz.prog 26 #[.slice sp n0 c, .slice a m mc] w fun e w' => ∃ sp' n' c', e = .returned (.slice sp' n' c') ∧ Hid ((l ++ tgsB ts).length = n') ∧ OwnB base w' sp' c' (l ++ tgsB ts) ∧ Grew w sp w' sp' := by
  have HT := hide hT
  have HM := hide hm
  have H0 := hide h0
  have HNS := hide hts
  have hsF := run_storeF .plain
  have L0 := hide (numB_len6 m (by omega))
  have E0 := hide (show numB m ++ ts.flatMap tgB = tgsB ts by unfold tgsB; rw [hm])
  have bA := hide (show Below w.heap.size w (w.alloc (.cells (nsRow [m]) 3)) from (Below.refl _ _).alloc (Nat.le_refl _) _)
  have CN := hide (addNumbers_calls base hn0 (hown.later (unhide bA)) w.heap.size 1 1 [m] rfl (heap_new w (.cells (nsRow [m]) 3)) (by intro n hn; simp at hn; omega) (by omega) (by omega) (Nat.le_trans hbase (unhide bA).size))
  have HO := hide hown
  rw [show nsRow [m] = #[.int .i64 (m : Int)] from rfl] at CN bA
  rw [nsB1] at CN
  clear hn0 hm hts hT h0 hown
  go_enter Tryz.func26, Tryz.ntmps26
  go_wp2_with fail
  refine (unhide CN).mono ?_
  rintro e V0 ⟨s0, m0, c0, rfl, hn1, ho1, hg1⟩
  have hV := hide (Grew.aside (unhide bA) hg1)
  have HW0 := hide (below_own hb0 (unhide HO) (unhide hV) hbase (unhide H0))
  have HO1 := hide ho1
  have hvs : base ≤ V0.heap.size := Nat.le_trans hbase (unhide hV).grown.size
  clear ho1 hg1 CN
  go_wp2_with fail
  go_loopw [0, 14] (fun v i wr => ∃ (j : Nat) (sp' : Option Addr) (n' c' : Nat), j ≤ m ∧ v = .slice sp' n' c' ∧ i = .int .i64 (j : Int) ∧ Hid ((l ++ numB m ++ (ts.take j).flatMap tgB).length = n') ∧ Hid (OwnB base wr sp' c' (l ++ numB m ++ (ts.take j).flatMap tgB)) ∧ Hid (Grew w sp wr sp') ∧ Hid (Below w0.heap.size w0 wr)) (fun _ i _ => m - (intOf i).toNat)
  case atStart => exact ⟨0, s0, m0, c0, by omega, rfl, rfl, hide (by simpa using unhide hn1), hide (by simpa using unhide HO1), hV, HW0⟩
  case round =>
    obtain ⟨j, sp', n', c', hj, rfl, rfl, hl', ho', hg', hw'⟩ := hrel
    by_cases hjm : j < m
    · have y0 : (0 : Int) ≤ (j : Int) := by omega
      have y1 : (j : Int) < (m : Int) := by omega
      have hjl : j < ts.length := by rw [unhide HM]; exact hjm
      obtain ⟨b1, o1, rfl, q0, q1⟩ := (unhide HT).cell j hjl
      have hlt := (unhide HT).lt _ (List.getElem_mem hjl)
      have p0 := cell_later (unhide hw') q0
      have p1 := cell_later (unhide hw') q1
      have hx := unhide HNS ts[j] (List.getElem_mem hjl)
      have FT := hide (flat_take tgB ts j hjl)
      have LJ := hide (show (l ++ numB m ++ (ts.take j).flatMap tgB).length + 1000014 ≤ 140737488355328 by
        have h3 := flat_le tgB 1000014 (ts.take j) (fun x hx => tgB_len x (unhide HNS x (List.mem_of_mem_take hx)))
        have h4 : (ts.take j).length ≤ j := by rw [List.length_take]; omega
        have h5 : 1000014 * (j + 1) ≤ 1000014 * m := Nat.mul_le_mul_left _ (by omega)
        have h6 := unhide L0
        have h7 : 1000014 * (ts.take j).length ≤ 1000014 * j := Nat.mul_le_mul_left _ h4
        rw [List.length_append, List.length_append]; omega)
      generalize ts[j] = t at *
      obtain ⟨s, x⟩ := t
      simp only at p0 p1 hx hlt
      clear q0 q1
      have S8 := hide (show (l ++ numB m ++ (ts.take j).flatMap tgB ++ txB s).length + 8 ≤ 140737488355328 by
        rw [List.length_append]
        have := txB_len s (by omega)
        have := unhide LJ
        omega)
      have hbr : base ≤ wr.heap.size := Nat.le_trans hbase (unhide hg').grown.size
      have hss : s.size ≤ 1000000 := hx
      have bX := hide (show Below wr.heap.size wr (wr.alloc (.cells #[.string s, .float .f64 x] 43)) from (Below.refl _ _).alloc (Nat.le_refl _) _)
      have X1 := heap_new wr (.cells #[.string s, .float .f64 x] 43)
      have c0' := box_cell X1 0 (.string s) rfl
      have c1' := box_cell X1 1 (.float .f64 x) rfl
      have XB := hide X1
      have hEE := hide (show wr.heap.size < (wr.alloc (.cells #[.string s, .float .f64 x] 43)).heap.size by simp)
      clear X1
      go_wp2_with fail
      generalize hE : wr.heap.size = E at *
      generalize (wr.alloc (.cells #[.string s, .float .f64 x] 43)) = V at *
      have hbr2 : base ≤ wr.heap.size := by rw [hE]; exact hbr
      have bV := hide (show Below V.heap.size V V.drew from (Below.refl _ _).drew)
      have bB := hide (show Below V.heap.size V (V.drew.alloc (.cells (tsRow [s]) 9)) from (unhide bV).alloc (Nat.le_refl _) _)
      have OV := hide (((unhide ho').later (by rw [hE]; exact unhide bX)).later (unhide bB))
      have CT := hide (addTexts_calls base (unhide hl') (unhide OV) V.heap.size 1 1 [s] rfl (show (V.drew.alloc (.cells (tsRow [s]) 9)).heap[V.heap.size]? = _ from heap_new V.drew (.cells (tsRow [s]) 9)) (by intro y hy; simp at hy; rw [hy]; exact hss) (by have := unhide LJ; omega) (by omega) (by have := (unhide bX).size; have := (unhide bB).size; omega))
      rw [txB1] at CT
      have KB := hide (show (V.drew.alloc (.cells (tsRow [s]) 9)).cell? ⟨E, 0, none⟩ = some (.string s) ∧ (V.drew.alloc (.cells (tsRow [s]) 9)).cell? ⟨E, 1, none⟩ = some (.float .f64 x) from ⟨cell_later (unhide bB) c0', cell_later (unhide bB) c1'⟩)
      have XE := hide (later_block (unhide bB) (unhide XB))
      have bZ := hide ((unhide bX).trans ((unhide bB).mono (by have := (unhide bX).size; omega)))
      rw [show tsRow [s] = #[.string s] from rfl] at CT bB KB XE OV bZ
      refine wp_region_held_drew (S := fun w' => w'.cell? ⟨E, 0, none⟩ = some (.string s) ∧ w'.cell? ⟨E, 1, none⟩ = some (.float .f64 x)) (by kernel_rfl) ?_ (fun hHeld => ?_)
      · try dsimp only
        first | exact unhide K3 | exact unhide K2 | exact unhide KB | exact ⟨c0', c1'⟩
      refine hT 0 ?_
      refine hT 1 ?_
      refine hT 2 ?_
      refine hT 5 ?_
      refine hT 6 ?_
      refine hO 3 (fun K hK => ?_)
      go_simp
      go_wp2_with fail
      refine hK.out _ _ ?_ (fun hHeld => ?_)
      · try dsimp only
        first | exact unhide K3 | exact unhide K2 | exact unhide KB | exact ⟨c0', c1'⟩
      clear hK K
      refine hP ?_
      refine hO 4 (fun K hK => ?_)
      go_simp
      first
        | (go_at_call 25
           refine (unhide CT).mono ?_
           rintro e U1 ⟨s1, n1, c1, rfl, hn2, ho2, hg2⟩
           have XU := Grew.block hg2 (unhide XE) ((unhide OV).ne (unhide XE) tyne2.1)
           have K2 := hide (show U1.cell? ⟨E, 0, none⟩ = some (.string s) ∧ U1.cell? ⟨E, 1, none⟩ = some (.float .f64 x) from ⟨box_cell XU 0 _ rfl, box_cell XU 1 _ rfl⟩)
           have XU2 := hide XU
           have HN2 := hide hn2
           have HO2 := hide ho2
           have HG2 := hide (Grew.aside (by rw [hE]; exact unhide bZ) hg2)
           clear XU hn2 ho2 hg2)
        | (go_at_call 56
           refine (addWeight_calls base (unhide HN2) (unhide HO2) x hlt (unhide S8) (Nat.le_trans hbr2 (unhide HG2).grown.size)).mono ?_
           rintro e U2 ⟨s2, n2, c2, rfl, hn3, ho3, hg3⟩
           have XU := Grew.block hg3 (unhide XU2) ((unhide HO2).ne (unhide XU2) tyne2.1)
           rw [List.append_assoc, show txB s ++ wtBy x = tgB (s, x) from rfl, List.append_assoc (l ++ numB m), ← unhide FT] at hn3 ho3
           have K3 := hide (show U2.cell? ⟨E, 0, none⟩ = some (.string s) ∧ U2.cell? ⟨E, 1, none⟩ = some (.float .f64 x) from ⟨box_cell XU 0 _ rfl, box_cell XU 1 _ rfl⟩)
           have HN3 := hide hn3
           have HO3 := hide ho3
           have HG3 := hide ((unhide HG2).trans hg3)
           clear XU hn3 ho3 hg3)
      go_wp2_with fail
      refine hK.out _ _ ?_ (fun hHeld => ?_)
      · try dsimp only
        first | exact unhide K3 | exact unhide K2 | exact unhide KB | exact ⟨c0', c1'⟩
      clear hK K
      refine hP ?_
      refine hO 7 (fun K hK => ?_)
      go_simp
      first
        | (go_at_call 25
           refine (unhide CT).mono ?_
           rintro e U1 ⟨s1, n1, c1, rfl, hn2, ho2, hg2⟩
           have XU := Grew.block hg2 (unhide XE) ((unhide OV).ne (unhide XE) tyne2.1)
           have K2 := hide (show U1.cell? ⟨E, 0, none⟩ = some (.string s) ∧ U1.cell? ⟨E, 1, none⟩ = some (.float .f64 x) from ⟨box_cell XU 0 _ rfl, box_cell XU 1 _ rfl⟩)
           have XU2 := hide XU
           have HN2 := hide hn2
           have HO2 := hide ho2
           have HG2 := hide (Grew.aside (by rw [hE]; exact unhide bZ) hg2)
           clear XU hn2 ho2 hg2)
        | (go_at_call 56
           refine (addWeight_calls base (unhide HN2) (unhide HO2) x hlt (unhide S8) (Nat.le_trans hbr2 (unhide HG2).grown.size)).mono ?_
           rintro e U2 ⟨s2, n2, c2, rfl, hn3, ho3, hg3⟩
           have XU := Grew.block hg3 (unhide XU2) ((unhide HO2).ne (unhide XU2) tyne2.1)
           rw [List.append_assoc, show txB s ++ wtBy x = tgB (s, x) from rfl, List.append_assoc (l ++ numB m), ← unhide FT] at hn3 ho3
           have K3 := hide (show U2.cell? ⟨E, 0, none⟩ = some (.string s) ∧ U2.cell? ⟨E, 1, none⟩ = some (.float .f64 x) from ⟨box_cell XU 0 _ rfl, box_cell XU 1 _ rfl⟩)
           have HN3 := hide hn3
           have HO3 := hide ho3
           have HG3 := hide ((unhide HG2).trans hg3)
           clear XU hn3 ho3 hg3)
      go_wp2_with fail
      refine hK.out _ _ ?_ (fun hHeld => ?_)
      · try dsimp only
        first | exact unhide K3 | exact unhide K2 | exact unhide KB | exact ⟨c0', c1'⟩
      clear hK K
      refine hP ?_
      refine hT 8 ?_
      refine wpAnyH_done (by kernel_rfl) ?_ _
      have hw2 := hide (below_own hb0 (unhide ho') (unhide HG3) hbr2 (unhide hw'))
      have hg4 := hide ((unhide hg').trans (unhide HG3))
      go_wp2
      exact ⟨⟨j + 1, s2, n2, c2, by omega, rfl, by go_num, by first | exact HN3 | exact hide (by rw [List.length_append]; exact unhide HN3), unhide HO3, unhide hg4, hw2⟩, by simp [intOf]; omega⟩
    · have hjj : ¬ (j : Int) < (m : Int) := by omega
      have E := hide (show numB m ++ (ts.take j).flatMap tgB = tgsB ts by rw [List.take_of_length_le (by rw [unhide HM]; omega)]; exact unhide E0)
      rw [List.append_assoc, unhide E] at hl' ho'
      go_wp2
      go_ret
      exact ⟨sp', n', c', rfl, by first | exact hl' | exact hide (by simpa using unhide hl'), unhide ho', unhide hg'⟩
set_option maxRecDepth 20000 in
set_option maxHeartbeats 8000000 in
theorem addPool_calls (base : Nat) {w0 w : World} {a : Option Addr} {nm : ByteArray} {ts : List Tgt} (hTs : TgsAt w0 a ts) (h0 : Below w0.heap.size w0 w) (hb0 : w0.heap.size ≤ base) {sp : Option Addr} {n0 c : Nat} {l : List Nat} (hn0 : l.length = n0) (hown : OwnB base w sp c l) (m mc : Nat) (hm : ts.length = m)
    (hnm : nm.size ≤ 1000000) (hts : ∀ t ∈ ts, t.1.size ≤ 1000000) (hsz : l.length + 1000020 + 1000014 * m ≤ 140737488355328) (hm2 : m ≤ 1000) (hbase : base ≤ w.heap.size) :
    Calls Tryz.prog 130 #[.slice sp n0 c, .agg #[.string nm, .slice a m mc]] w fun e w' => ∃ sp' n' c', e = .returned (.slice sp' n' c') ∧ Hid ((l ++ poolB ⟨nm, ts⟩).length = n') ∧ OwnB base w' sp' c' (l ++ poolB ⟨nm, ts⟩) ∧ Grew w sp w' sp' := by
  have bX := hide (show Below w.heap.size w (w.alloc (.cells #[.string nm, .slice a m mc] 93)) from (Below.refl _ _).alloc (Nat.le_refl _) _)
  have X1 := heap_new w (.cells #[.string nm, .slice a m mc] 93)
  have c0' := box_cell X1 0 (.string nm) rfl
  have c1' := box_cell X1 1 (.slice a m mc) rfl
  have XB := hide X1
  have LT := hide (txB_len nm (by omega))
  have HO := hide hown
  have H0 := hide h0
  clear X1
  go_enter Tryz.func130, Tryz.ntmps130
  go_wp2_with fail
  generalize hE : w.heap.size = E at *
  generalize (w.alloc (.cells #[.string nm, .slice a m mc] 93)) = V at *
  have hbase2 : base ≤ w.heap.size := by rw [hE]; exact hbase
  have bV := hide (show Below V.heap.size V V.drew from (Below.refl _ _).drew)
  have bB := hide (show Below V.heap.size V (V.drew.alloc (.cells (tsRow [nm]) 9)) from (unhide bV).alloc (Nat.le_refl _) _)
  have OV := hide (((unhide HO).later (by rw [hE]; exact unhide bX)).later (unhide bB))
  have CT := hide (addTexts_calls base hn0 (unhide OV) V.heap.size 1 1 [nm] rfl (show (V.drew.alloc (.cells (tsRow [nm]) 9)).heap[V.heap.size]? = _ from heap_new V.drew (.cells (tsRow [nm]) 9)) (by intro y hy; simp at hy; rw [hy]; exact hnm) (by omega) (by omega) (by have := (unhide bX).size; have := (unhide bB).size; omega))
  rw [txB1] at CT
  have KB := hide (show (V.drew.alloc (.cells (tsRow [nm]) 9)).cell? ⟨E, 0, none⟩ = some (.string nm) ∧ (V.drew.alloc (.cells (tsRow [nm]) 9)).cell? ⟨E, 1, none⟩ = some (.slice a m mc) from ⟨cell_later (unhide bB) c0', cell_later (unhide bB) c1'⟩)
  have XE := hide (later_block (unhide bB) (unhide XB))
  have bZ := hide ((unhide bX).trans ((unhide bB).mono (by have := (unhide bX).size; omega)))
  rw [show tsRow [nm] = #[.string nm] from rfl] at CT bB KB XE OV bZ
  refine wp_region_held_drew (S := fun w' => w'.cell? ⟨E, 0, none⟩ = some (.string nm) ∧ w'.cell? ⟨E, 1, none⟩ = some (.slice a m mc)) (by kernel_rfl) ?_ (fun hHeld => ?_)
  · try dsimp only
    first | exact unhide K3 | exact unhide K2 | exact unhide KB | exact ⟨c0', c1'⟩
  refine hT 0 ?_
  refine hT 1 ?_
  refine hT 2 ?_
  refine hT 5 ?_
  refine hT 6 ?_
  refine hO 3 (fun K hK => ?_)
  go_simp
  go_wp2_with fail
  refine hK.out _ _ ?_ (fun hHeld => ?_)
  · try dsimp only
    first | exact unhide K3 | exact unhide K2 | exact unhide KB | exact ⟨c0', c1'⟩
  clear hK K
  refine hP ?_
  refine hO 4 (fun K hK => ?_)
  go_simp
  first
    | (go_at_call 25
       refine (unhide CT).mono ?_
       rintro e U1 ⟨s1, n1, c1, rfl, hn2, ho2, hg2⟩
       have XU := Grew.block hg2 (unhide XE) ((unhide OV).ne (unhide XE) tyne2.2.1)
       have K2 := hide (show U1.cell? ⟨E, 0, none⟩ = some (.string nm) ∧ U1.cell? ⟨E, 1, none⟩ = some (.slice a m mc) from ⟨box_cell XU 0 _ rfl, box_cell XU 1 _ rfl⟩)
       have XU2 := hide XU
       have HN2 := hide hn2
       have HO2 := hide ho2
       have HG2 := hide (Grew.aside (by rw [hE]; exact unhide bZ) hg2)
       have HW2 := hide (below_own hb0 (unhide HO) (unhide HG2) hbase2 (unhide H0))
       clear XU hn2 ho2 hg2)
    | (go_at_call 26
       refine (addTargets_calls base hTs (unhide HW2) hb0 (unhide HN2) (unhide HO2) m mc hm hts (by have := unhide LT; rw [List.length_append]; omega) hm2 (Nat.le_trans hbase2 (unhide HG2).grown.size)).mono ?_
       rintro e U2 ⟨s2, n2, c2, rfl, hn3, ho3, hg3⟩
       have XU := Grew.block hg3 (unhide XU2) ((unhide HO2).ne (unhide XU2) tyne2.2.1)
       rw [List.append_assoc, show txB nm ++ tgsB ts = poolB ⟨nm, ts⟩ from rfl] at hn3 ho3
       have K3 := hide (show U2.cell? ⟨E, 0, none⟩ = some (.string nm) ∧ U2.cell? ⟨E, 1, none⟩ = some (.slice a m mc) from ⟨box_cell XU 0 _ rfl, box_cell XU 1 _ rfl⟩)
       have HN3 := hide hn3
       have HO3 := hide ho3
       have HG3 := hide ((unhide HG2).trans hg3)
       clear XU hn3 ho3 hg3)
  go_wp2_with fail
  refine hK.out _ _ ?_ (fun hHeld => ?_)
  · try dsimp only
    first | exact unhide K3 | exact unhide K2 | exact unhide KB | exact ⟨c0', c1'⟩
  clear hK K
  refine hP ?_
  refine hO 7 (fun K hK => ?_)
  go_simp
  first
    | (go_at_call 25
       refine (unhide CT).mono ?_
       rintro e U1 ⟨s1, n1, c1, rfl, hn2, ho2, hg2⟩
       have XU := Grew.block hg2 (unhide XE) ((unhide OV).ne (unhide XE) tyne2.2.1)
       have K2 := hide (show U1.cell? ⟨E, 0, none⟩ = some (.string nm) ∧ U1.cell? ⟨E, 1, none⟩ = some (.slice a m mc) from ⟨box_cell XU 0 _ rfl, box_cell XU 1 _ rfl⟩)
       have XU2 := hide XU
       have HN2 := hide hn2
       have HO2 := hide ho2
       have HG2 := hide (Grew.aside (by rw [hE]; exact unhide bZ) hg2)
       have HW2 := hide (below_own hb0 (unhide HO) (unhide HG2) hbase2 (unhide H0))
       clear XU hn2 ho2 hg2)
    | (go_at_call 26
       refine (addTargets_calls base hTs (unhide HW2) hb0 (unhide HN2) (unhide HO2) m mc hm hts (by have := unhide LT; rw [List.length_append]; omega) hm2 (Nat.le_trans hbase2 (unhide HG2).grown.size)).mono ?_
       rintro e U2 ⟨s2, n2, c2, rfl, hn3, ho3, hg3⟩
       have XU := Grew.block hg3 (unhide XU2) ((unhide HO2).ne (unhide XU2) tyne2.2.1)
       rw [List.append_assoc, show txB nm ++ tgsB ts = poolB ⟨nm, ts⟩ from rfl] at hn3 ho3
       have K3 := hide (show U2.cell? ⟨E, 0, none⟩ = some (.string nm) ∧ U2.cell? ⟨E, 1, none⟩ = some (.slice a m mc) from ⟨box_cell XU 0 _ rfl, box_cell XU 1 _ rfl⟩)
       have HN3 := hide hn3
       have HO3 := hide ho3
       have HG3 := hide ((unhide HG2).trans hg3)
       clear XU hn3 ho3 hg3)
  go_wp2_with fail
  refine hK.out _ _ ?_ (fun hHeld => ?_)
  · try dsimp only
    first | exact unhide K3 | exact unhide K2 | exact unhide KB | exact ⟨c0', c1'⟩
  clear hK K
  refine hP ?_
  refine hT 8 ?_
  refine wpAnyH_done (by kernel_rfl) ?_ _
  go_wp2
  go_ret
  exact ⟨s2, n2, c2, rfl, by first | exact HN3 | exact hide (by simpa using unhide HN3), unhide HO3, unhide HG3⟩
end Go.Proofs.YtpkpnedcecjlbaaGreatDoor
end
/- Conf: routes and a configuration appended to bytes of one's own. -/
section
namespace Go.Proofs.YtpkpnedcecjlbaaGreatDoor
open Go.ChangeShapes Go.WideShapes Go.ChangeAt Go.RowKit
set_option linter.unusedVariables false

theorem size_al (w : World) (o : Obj) : (w.alloc o).heap.size = w.heap.size + 1 := by simp
structure SmallT (e : Cf) : Prop where
  rn : e.rs.length ≤ 1000
  pn : e.ps.length ≤ 1000
  rs : ∀ r ∈ e.rs, r.h.size ≤ 1000000 ∧ r.p.size ≤ 1000000 ∧ r.l.size ≤ 1000000
  ps : ∀ p ∈ e.ps, p.nm.size ≤ 1000000 ∧ p.ts.length ≤ 100 ∧ ∀ t ∈ p.ts, t.1.size ≤ 1000000
theorem routeB_len (r : Rt) (h : r.h.size ≤ 1000000 ∧ r.p.size ≤ 1000000 ∧ r.l.size ≤ 1000000) : (routeB r).length ≤ 3000018 := by
  obtain ⟨h1, h2, h3⟩ := h
  unfold routeB
  have := txB_len r.h (by omega)
  have := txB_len r.p (by omega)
  have := txB_len r.l (by omega)
  simp only [List.length_append]
  omega
theorem poolB_len (p : Po) (h : p.nm.size ≤ 1000000 ∧ p.ts.length ≤ 100 ∧ ∀ t ∈ p.ts, t.1.size ≤ 1000000) : (poolB p).length ≤ 101001420 := by
  obtain ⟨h1, h2, h3⟩ := h
  unfold poolB tgsB
  have := txB_len p.nm (by omega)
  have := numB_len6 p.ts.length (by omega)
  have h5 := flat_le tgB 1000014 p.ts (fun x hx => tgB_len x (h3 x hx))
  have h6 : 1000014 * p.ts.length ≤ 1000014 * 100 := Nat.mul_le_mul_left _ h2
  simp only [List.length_append]
  omega
theorem tx3 (r : Rt) : txsB [r.h, r.p, r.l] = routeB r := by simp [txsB, routeB]
set_option maxRecDepth 20000 in
set_option maxHeartbeats 8000000 in
theorem addRoute_calls (base : Nat) {w : World} (r : Rt) {sp : Option Addr} {n0 c : Nat} {l : List Nat} (hn0 : l.length = n0) (hown : OwnB base w sp c l)
    (hr : r.h.size ≤ 1000000 ∧ r.p.size ≤ 1000000 ∧ r.l.size ≤ 1000000) (hsz : l.length + 3000018 ≤ 140737488355328) (hbase : base ≤ w.heap.size) :
    Calls Tryz.prog 133 #[.slice sp n0 c, rtVal r] w fun e w' => ∃ sp' n' c', e = .returned (.slice sp' n' c') ∧ Hid ((l ++ routeB r).length = n') ∧ OwnB base w' sp' c' (l ++ routeB r) ∧ Grew w sp w' sp' := by
  obtain ⟨h1, h2, h3⟩ := hr
  have E := hide (tx3 r)
  unfold rtVal
  obtain ⟨rh, rp, rl⟩ := r
  simp only at *
  have bX := hide (show Below w.heap.size w (w.alloc (.cells #[.string rh, .string rp, .string rl] 67)) from (Below.refl _ _).alloc (Nat.le_refl _) _)
  have X1 := heap_new w (.cells #[.string rh, .string rp, .string rl] 67)
  have c0' := box_cell X1 0 (.string rh) rfl
  have c1' := box_cell X1 1 (.string rp) rfl
  have c2' := box_cell X1 2 (.string rl) rfl
  have bB := hide (show Below (w.alloc (.cells #[.string rh, .string rp, .string rl] 67)).heap.size (w.alloc (.cells #[.string rh, .string rp, .string rl] 67)) ((w.alloc (.cells #[.string rh, .string rp, .string rl] 67)).alloc (.cells (tsRow [rh, rp, rl]) 9)) from (Below.refl _ _).alloc (Nat.le_refl _) _)
  have OV := hide ((hown.later (unhide bX)).later (unhide bB))
  have CT := hide (addTexts_calls base hn0 (unhide OV) (w.heap.size + 1) 3 3 [rh, rp, rl] rfl (by have := heap_new (w.alloc (.cells #[.string rh, .string rp, .string rl] 67)) (.cells (tsRow [rh, rp, rl]) 9); rwa [size_al] at this) (by intro y hy; simp at hy; rcases hy with rfl | rfl | rfl <;> assumption) (by omega) (by omega) (by have := (unhide bX).size; have := (unhide bB).size; omega))
  have bZ := hide ((unhide bX).trans ((unhide bB).mono (unhide bX).size))
  rw [unhide E] at CT
  rw [show tsRow [rh, rp, rl] = #[.string rh, .string rp, .string rl] from rfl] at CT bB OV bZ
  clear X1
  go_enter Tryz.func133, Tryz.ntmps133
  go_wp2_with fail
  refine (unhide CT).mono ?_
  rintro e U1 ⟨s1, n1, c1, rfl, hn2, ho2, hg2⟩
  have HO2 := hide ho2
  have HG2 := hide (Grew.aside (unhide bZ) hg2)
  clear ho2 hg2
  go_wp2
  go_ret
  exact ⟨s1, n1, c1, rfl, by first | exact hn2 | exact hide (by simpa using unhide hn2), unhide HO2, unhide HG2⟩
set_option maxRecDepth 20000 in
set_option maxHeartbeats 8000000 in
theorem addConfig_calls (base : Nat) {w0 w : World} {e : Cf} {h : CfH} (hC : CfAt w0 e h) (hS : SmallT e) (h0 : Below w0.heap.size w0 w) (hb0 : w0.heap.size ≤ base) {sp : Option Addr} {n0 c : Nat} {l : List Nat} (hn0 : l.length = n0) (hown : OwnB base w sp c l)
    (hsz : l.length ≤ 1000000) (hbase : base ≤ w.heap.size) :
    Calls Tryz.prog 145 #[.slice sp n0 c, cfVal e h] w fun r w' => ∃ sp' n' c', r = .returned (.slice sp' n' c') ∧ Hid ((l ++ confB e).length = n') ∧ OwnB base w' sp' c' (l ++ confB e) ∧ Grew w sp w' sp' := by
  have HP := hide hC.pos
  have HR := hide hC.rts
  have EB := hide (show confB e = numB e.ps.length ++ (e.ps.flatMap poolB ++ (numB e.rs.length ++ e.rs.flatMap routeB)) from rfl)
  have SP := hide hS.ps
  have SR := hide hS.rs
  have hpn := hS.pn
  have hrn := hS.rn
  unfold cfVal
  obtain ⟨ver, rs, ps⟩ := e
  obtain ⟨ra, rc, pa, pc⟩ := h
  simp only at *
  generalize confB ⟨ver, rs, ps⟩ = CB at *
  generalize hm : ps.length = m at *
  generalize hk : rs.length = k at *
  have HM := hide hm
  have HK := hide hk
  have HO := hide hown
  have H0 := hide h0
  have LP := hide (show ∀ j, j ≤ m → ((ps.take j).flatMap poolB).length ≤ 101001420 * j from fun j hj => by
    have h3 := flat_le poolB 101001420 (ps.take j) (fun x hx => poolB_len x (unhide SP x (List.mem_of_mem_take hx)))
    have h4 : (ps.take j).length ≤ j := by rw [List.length_take]; omega
    exact Nat.le_trans h3 (Nat.mul_le_mul_left _ h4))
  have LR := hide (show ∀ j, j ≤ k → ((rs.take j).flatMap routeB).length ≤ 3000018 * j from fun j hj => by
    have h3 := flat_le routeB 3000018 (rs.take j) (fun x hx => routeB_len x (unhide SR x (List.mem_of_mem_take hx)))
    have h4 : (rs.take j).length ≤ j := by rw [List.length_take]; omega
    exact Nat.le_trans h3 (Nat.mul_le_mul_left _ h4))
  have L1 := hide (numB_len6 m (by omega))
  have L2 := hide (numB_len6 k (by omega))
  have TP := hide (show ps.take m = ps from List.take_of_length_le (by rw [unhide HM]; exact Nat.le_refl _))
  have bX := hide (show Below w.heap.size w (w.alloc (.cells #[.int .i64 ver, .slice ra k rc, .slice pa m pc] 53)) from (Below.refl _ _).alloc (Nat.le_refl _) _)
  have X1 := hide (heap_new w (.cells #[.int .i64 ver, .slice ra k rc, .slice pa m pc] 53))
  have c2' := box_cell (unhide X1) 2 (.slice pa m pc) rfl
  have bB := hide (show Below (w.alloc (.cells #[.int .i64 ver, .slice ra k rc, .slice pa m pc] 53)).heap.size (w.alloc (.cells #[.int .i64 ver, .slice ra k rc, .slice pa m pc] 53)) ((w.alloc (.cells #[.int .i64 ver, .slice ra k rc, .slice pa m pc] 53)).alloc (.cells (nsRow [m]) 3)) from (Below.refl _ _).alloc (Nat.le_refl _) _)
  have OV := hide (((unhide HO).later (unhide bX)).later (unhide bB))
  have CN := hide (addNumbers_calls base hn0 (unhide OV) (w.heap.size + 1) 1 1 [m] rfl (by have := heap_new (w.alloc (.cells #[.int .i64 ver, .slice ra k rc, .slice pa m pc] 53)) (.cells (nsRow [m]) 3); rwa [size_al] at this) (by intro n hn; simp at hn; omega) (by omega) (by omega) (by have := (unhide bX).size; have := (unhide bB).size; omega))
  have XE := hide (later_block (unhide bB) (unhide X1))
  have bZ := hide ((unhide bX).trans ((unhide bB).mono (unhide bX).size))
  rw [nsB1] at CN
  rw [show nsRow [m] = #[.int .i64 (m : Int)] from rfl] at CN bB OV XE bZ
  clear hC hS h0 hown hn0 hm hk
  go_enter Tryz.func145, Tryz.ntmps145
  go_wp2_with fail
  refine (unhide CN).mono ?_
  rintro r V0 ⟨s0, m0, c0, rfl, hn1, ho1, hg1⟩
  generalize hE : w.heap.size = E at *
  have hbase2 : base ≤ w.heap.size := by rw [hE]; exact hbase
  have XU := Grew.block hg1 (unhide XE) ((unhide OV).ne (unhide XE) tyne2.2.2.2)
  have d2 := box_cell XU 2 (.slice pa m pc) rfl
  have XV := hide XU
  have HO1 := hide ho1
  have HG1 := hide (Grew.aside (by rw [hE]; exact unhide bZ) hg1)
  have HW1 := hide (below_own hb0 (unhide HO) (unhide HG1) hbase2 (unhide H0))
  clear XU ho1 hg1 CN c2'
  go_wp2_with fail
  go_loopw [0, 18] (fun v i wr => ∃ (j : Nat) (sp' : Option Addr) (n' c' : Nat), j ≤ m ∧ v = .slice sp' n' c' ∧ i = .int .i64 (j : Int) ∧ Hid ((l ++ numB m ++ (ps.take j).flatMap poolB).length = n') ∧ Hid (OwnB base wr sp' c' (l ++ numB m ++ (ps.take j).flatMap poolB)) ∧ Hid (Grew w sp wr sp') ∧ Hid (Below w0.heap.size w0 wr) ∧ Hid (wr.heap[E]? = some (.cells #[.int .i64 ver, .slice ra k rc, .slice pa m pc] 53 (0, 0)))) (fun _ i _ => m - (intOf i).toNat)
  case atStart => exact ⟨0, s0, m0, c0, by omega, rfl, rfl, hide (by simpa using unhide hn1), hide (by simpa using unhide HO1), HG1, HW1, XV⟩
  case round =>
    obtain ⟨j, sp', n', c', hj, rfl, rfl, hl', ho', hg', hw', hx'⟩ := hrel
    have hbr : base ≤ wr.heap.size := Nat.le_trans hbase2 (unhide hg').grown.size
    by_cases hjm : j < m
    · have y0 : (0 : Int) ≤ (j : Int) := by omega
      have y1 : (j : Int) < (m : Int) := by omega
      have hjl : j < ps.length := by rw [unhide HM]; exact hjm
      obtain ⟨b1, o1, ta, tc, rfl, q0, q1, hT, hlt, _⟩ := (unhide HP).cell j hjl
      have p0 := cell_later (unhide hw') q0
      have p1 := cell_later (unhide hw') q1
      obtain ⟨z1, z2, z3⟩ := unhide SP ps[j] (List.getElem_mem hjl)
      have FT := hide (flat_take poolB ps j hjl)
      have LJ := hide (show (l ++ numB m ++ (ps.take j).flatMap poolB).length + 1000020 + 1000014 * ps[j].ts.length ≤ 140737488355328 by
        have h3 := unhide LP j (by omega)
        have h4 : 101001420 * j ≤ 101001420 * 1000 := Nat.mul_le_mul_left _ (by omega)
        have h5 : 1000014 * ps[j].ts.length ≤ 1000014 * 100 := Nat.mul_le_mul_left _ z2
        have h6 := unhide L1
        rw [List.length_append, List.length_append]; omega)
      generalize ps[j] = p at *
      obtain ⟨nm, ts⟩ := p
      simp only at p0 p1 z1 z2 z3 hT LJ
      clear q0 q1 hlt
      generalize htn : ts.length = tn at *
      have bX2 := hide (show Below wr.heap.size wr (wr.alloc (.cells #[.string nm, .slice ta tn tc] 93)) from (Below.refl _ _).alloc (Nat.le_refl _) _)
      have X2 := heap_new wr (.cells #[.string nm, .slice ta tn tc] 93)
      have e0 := box_cell X2 0 (.string nm) rfl
      have e1 := box_cell X2 1 (.slice ta tn tc) rfl
      have XE2 := hide (later_block (unhide bX2) (unhide hx'))
      have OV2 := hide ((unhide ho').later (unhide bX2))
      have AP := hide (addPool_calls base (nm := nm) (c := c') (sp := sp') hT ((unhide hw').trans ((unhide bX2).mono (unhide hw').size)) hb0 (unhide hl') (unhide OV2) tn tc htn z1 z3 (unhide LJ) (by omega) (Nat.le_trans hbr (unhide bX2).size))
      clear X2 hT htn
      go_wp2_with fail
      refine (unhide AP).mono ?_
      rintro r U1 ⟨s1, n1, c1, rfl, hn2, ho2, hg2⟩
      have hxu := hide (Grew.block hg2 (unhide XE2) ((unhide OV2).ne (unhide XE2) tyne2.2.2.2))
      have HG2 := hide (Grew.aside (unhide bX2) hg2)
      have hw2 := hide (below_own hb0 (unhide ho') (unhide HG2) hbr (unhide hw'))
      have hg4 := hide ((unhide hg').trans (unhide HG2))
      rw [List.append_assoc (l ++ numB m), ← unhide FT] at hn2 ho2
      have HO2 := hide ho2
      clear ho2 hg2
      go_wp2
      exact ⟨⟨j + 1, s1, n1, c1, by omega, rfl, by go_num, by first | exact hn2 | exact hide (by rw [List.length_append]; exact unhide hn2), unhide HO2, unhide hg4, hw2, hxu⟩, by simp [intOf]; omega⟩
    · have hjj : ¬ (j : Int) < (m : Int) := by omega
      obtain rfl : j = m := by omega
      rw [unhide TP] at hl' ho'
      have d1 := box_cell (unhide hx') 1 (.slice ra k rc) rfl
      have LQ := hide (show (l ++ numB j ++ ps.flatMap poolB).length ≤ 1000000 + 6 + 101001420000 by
        have h3 := unhide LP j (Nat.le_refl _)
        rw [unhide TP] at h3
        have h4 : 101001420 * j ≤ 101001420 * 1000 := Nat.mul_le_mul_left _ (by omega)
        have h6 := unhide L1
        rw [List.length_append, List.length_append]; omega)
      have bB2 := hide (show Below wr.heap.size wr (wr.alloc (.cells (nsRow [k]) 3)) from (Below.refl _ _).alloc (Nat.le_refl _) _)
      have OV3 := hide ((unhide ho').later (unhide bB2))
      have XE3 := hide (later_block (unhide bB2) (unhide hx'))
      have CN2 := hide (addNumbers_calls base (unhide hl') (unhide OV3) wr.heap.size 1 1 [k] rfl (heap_new wr (.cells (nsRow [k]) 3)) (by intro n hn; simp at hn; omega) (by have := unhide LQ; omega) (by omega) (Nat.le_trans hbr (unhide bB2).size))
      rw [nsB1] at CN2
      rw [show nsRow [k] = #[.int .i64 (k : Int)] from rfl] at CN2 bB2 OV3 XE3
      go_wp2_with fail
      refine (unhide CN2).mono ?_
      rintro r V2 ⟨s2, m2, c2, rfl, hn3, ho3, hg3⟩
      have hxu := hide (Grew.block hg3 (unhide XE3) ((unhide OV3).ne (unhide XE3) tyne2.2.2.2))
      have f1 := box_cell (unhide hxu) 1 (.slice ra k rc) rfl
      have HG3 := hide (Grew.aside (unhide bB2) hg3)
      have hw3 := hide (below_own hb0 (unhide ho') (unhide HG3) hbr (unhide hw'))
      have hg5 := hide ((unhide hg').trans (unhide HG3))
      have HO3 := hide ho3
      clear ho3 hg3 CN2
      go_wp2_with fail
      go_loopw [0, 35] (fun v i wr => ∃ (q : Nat) (sp' : Option Addr) (n' c' : Nat), q ≤ k ∧ v = .slice sp' n' c' ∧ i = .int .i64 (q : Int) ∧ Hid ((l ++ numB j ++ ps.flatMap poolB ++ numB k ++ (rs.take q).flatMap routeB).length = n') ∧ Hid (OwnB base wr sp' c' (l ++ numB j ++ ps.flatMap poolB ++ numB k ++ (rs.take q).flatMap routeB)) ∧ Hid (Grew w sp wr sp') ∧ Hid (Below w0.heap.size w0 wr)) (fun _ i _ => k - (intOf i).toNat)
      case atStart => exact ⟨0, s2, m2, c2, by omega, rfl, rfl, hide (by simpa using unhide hn3), hide (by simpa using unhide HO3), hg5, hw3⟩
      case round =>
        obtain ⟨q, sp', n', c', hq, rfl, rfl, hl2, ho2, hg2, hw2⟩ := hrel
        have hbr2 : base ≤ wr.heap.size := Nat.le_trans hbase2 (unhide hg2).grown.size
        by_cases hqk : q < k
        · have y0 : (0 : Int) ≤ (q : Int) := by omega
          have y1 : (q : Int) < (k : Int) := by omega
          have hql : q < rs.length := by rw [unhide HK]; exact hqk
          obtain ⟨b1, o1, rfl, q0, q1, q2⟩ := (unhide HR).cell q hql
          have p0 := cell_later (unhide hw2) q0
          have p1 := cell_later (unhide hw2) q1
          have p2 := cell_later (unhide hw2) q2
          have z := unhide SR rs[q] (List.getElem_mem hql)
          have FT := hide (flat_take routeB rs q hql)
          have LJ := hide (show (l ++ numB j ++ ps.flatMap poolB ++ numB k ++ (rs.take q).flatMap routeB).length + 3000018 ≤ 140737488355328 by
            have h3 := unhide LR q (by omega)
            have h4 : 3000018 * q ≤ 3000018 * 1000 := Nat.mul_le_mul_left _ (by omega)
            have h6 := unhide L2
            have h7 := unhide LQ
            rw [List.length_append, List.length_append]; omega)
          generalize rs[q] = r at *
          have bX2 := hide (show Below wr.heap.size wr (wr.alloc (.cells #[.string r.h, .string r.p, .string r.l] 67)) from (Below.refl _ _).alloc (Nat.le_refl _) _)
          have X2 := heap_new wr (.cells #[.string r.h, .string r.p, .string r.l] 67)
          have OV2 := hide ((unhide ho2).later (unhide bX2))
          have AP := hide (addRoute_calls base r (unhide hl2) (unhide OV2) z (unhide LJ) (Nat.le_trans hbr2 (unhide bX2).size))
          unfold rtVal at AP
          obtain ⟨rh, rp, rl⟩ := r
          simp only at *
          have e0 := box_cell X2 0 (.string rh) rfl
          have e1 := box_cell X2 1 (.string rp) rfl
          have e2 := box_cell X2 2 (.string rl) rfl
          clear X2 q0 q1 q2
          go_wp2_with fail
          refine (unhide AP).mono ?_
          rintro r U1 ⟨s1, n1, c1, rfl, hn2, ho3, hg3⟩
          have HG4 := hide (Grew.aside (unhide bX2) hg3)
          have hw4 := hide (below_own hb0 (unhide ho2) (unhide HG4) hbr2 (unhide hw2))
          have hg4 := hide ((unhide hg2).trans (unhide HG4))
          rw [List.append_assoc (l ++ numB j ++ ps.flatMap poolB ++ numB k), ← unhide FT] at hn2 ho3
          have HO2 := hide ho3
          clear ho3 hg3
          go_wp2
          exact ⟨⟨q + 1, s1, n1, c1, by omega, rfl, by go_num, by first | exact hn2 | exact hide (by simpa using unhide hn2), unhide HO2, unhide hg4, hw4⟩, by simp [intOf]; omega⟩
        · have hqq : ¬ (q : Int) < (k : Int) := by omega
          have EE := hide (show l ++ numB j ++ ps.flatMap poolB ++ numB k ++ (rs.take q).flatMap routeB = l ++ CB by
            rw [unhide EB, List.take_of_length_le (by rw [unhide HK]; omega)]
            simp only [List.append_assoc])
          rw [unhide EE] at hl2 ho2
          go_wp2
          go_ret
          exact ⟨sp', n', c', rfl, by first | exact hl2 | exact hide (by simpa using unhide hl2), unhide ho2, unhide hg2⟩
end Go.Proofs.YtpkpnedcecjlbaaGreatDoor
end
