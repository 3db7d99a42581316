/- Snapshots: the program's Put. -/
import Derived.Test.YtagncghpfdjkmaaGreatDoorB17
import Derived.Test.YtagncghpfdjkmaaGreatDoorB10
import Derived.Test.YtagncghpfdjkmaaGreatDoorB19
import Derived.Maps.AppendAt
import Derived.Deep.RegionLaw
section
namespace Go.Proofs.YtagncghpfdjkmaaGreatDoor
open Go.ChangeShapes Go.WideShapes Go.ChangeAt Go.RowKit
set_option linter.unusedVariables false

set_option maxRecDepth 20000 in
set_option maxHeartbeats 8000000 in
theorem sput_calls (s : Sn) (h : SnH) (w : World) (hs : SnAt w s h) : Calls Tryz.prog 15 #[.agg (snRow s h)] w (PutS s w) := by
  have HS := hide hs
  have FB := hide (show ∀ (x : Nat) W, snE s = x → x ≠ 0 → Below w.heap.size w W → PutS s w (.returned (.tuple #[.slice none 0 0, .int .i64 (x : Int)])) W from fun x W h1 h2 u => ⟨u, .inl ⟨by rw [h1]; exact h2, by rw [h1]⟩⟩)
  have PC := hide (fun W (u : Below w.heap.size w W) => mput_calls (w := W) (vc := h.vc) (lc := h.lc) (hs.v.later u) (hs.l.later u) s.v.length s.l.length rfl rfl hs.vn hs.ln)
  unfold snRow
  have bi := hs.bi
  have bt := hs.bt
  have hdn := hs.dn
  have hdm := hs.dm
  have hvn := hs.vn
  have hln := hs.ln
  simp only [maxLen] at hdm hvn hln
  have HI := hide (show snE s = (if (1 ≤ s.i ∧ s.i ≤ 1099511627776) ∧ (1 ≤ s.t ∧ s.t ≤ 1099511627776) ∧ rightM s.v s.l = true then (if 16384 < s.d.length then 6 else 0) else 2) from rfl)
  have SI := hide (show snI s = inB s.i.toNat s.t.toNat (listB s.v ++ listB s.l) s.d from rfl)
  clear hs
  generalize hvl : s.v.length = vn at *
  generalize hll : s.l.length = ln at *
  generalize hdl : s.d.length = dn at *
  generalize hi0 : s.i = i at *
  generalize ht0 : s.t = t at *
  have E0 := hide hi0
  have E1 := hide ht0
  have VL := hide hvl
  have LL := hide hll
  have DL := hide hdl
  clear hi0 ht0 hvl hll hdl
  have X1 := hide (heap_new w (.cells #[.int .i64 i, .int .i64 t, .slice h.va vn h.vc, .slice h.la ln h.lc, .slice h.dp dn h.dc] 29))
  have u1 := hide (show Below w.heap.size w (w.alloc (.cells #[.int .i64 i, .int .i64 t, .slice h.va vn h.vc, .slice h.la ln h.lc, .slice h.dp dn h.dc] 29)) from (Below.refl _ _).alloc (Nat.le_refl _) _)
  have c0 := box_cell (unhide X1) 0 _ rfl
  have c1 := box_cell (unhide X1) 1 _ rfl
  by_cases h1 : 1 ≤ i ∧ i ≤ 1099511627776
  · by_cases h2 : 1 ≤ t ∧ t ≤ 1099511627776
    · have P1 := hide (fun W => isPos_yes i W h1)
      have P2 := hide (fun W => isPos_yes t W h2)
      go_enter Tryz.func15, Tryz.ntmps15
      go_wp2_with fail
      generalize w.alloc _ = W1 at *
      generalize hD : w.heap.size = D at *
      go_at_call 50
      refine (unhide P1 _).mono ?_
      rintro e V1 ⟨rfl, rfl⟩
      go_wp2_with fail
      go_at_call 50
      refine (unhide P2 _).mono ?_
      rintro e V1 ⟨rfl, rfl⟩
      have c2 := box_cell (unhide X1) 2 _ rfl
      have c3 := box_cell (unhide X1) 3 _ rfl
      have c4 := box_cell (unhide X1) 4 _ rfl
      go_wp2_with fail
      go_at_call 51
      refine (unhide PC _ (unhide u1)).mono ?_
      rintro e V2 ⟨mp, mn, mc, rfl, hmn, hmo, v2⟩
      have X2 := hide (later_block v2 (unhide X1))
      have U2 := hide ((unhide u1).trans (v2.mono (by rw [← hD]; exact (unhide u1).size)))
      have U2' := hide (show Below w.heap.size w V2 from by rw [hD]; exact unhide U2)
      have MO := hide hmo
      have MN := hide (unhide hmn)
      clear v2 hmo hmn c0 c1 c2 c3 c4 P1 P2 X1
      cases hr : rightM s.v s.l with
      | false =>
        have PE := hide (show putE s.v s.l = 2 by rw [putE, hr]; rfl)
        rw [unhide PE]
        have FE := hide (unhide FB 2 V2 (by rw [unhide HI, if_neg (by rw [hr]; simp)]) (by omega) (unhide U2))
        clear FB HI
        go_wp2
        go_ret2
        exact unhide FE
      | true =>
        have PE := hide (show putE s.v s.l = 0 by rw [putE, hr]; rfl)
        have PB := hide (show putB s.v s.l = listB s.v ++ listB s.l by rw [putB, hr]; rfl)
        rw [unhide PE]
        rw [unhide PB] at MO MN
        have c4 := box_cell (unhide X2) 4 _ rfl
        by_cases h3 : 16384 < dn
        · have y3 : (16384 : Int) < (dn : Int) := by omega
          have FE := hide (unhide FB 6 V2 (by rw [unhide HI, if_pos ⟨h1, h2, hr⟩, if_pos h3]) (by omega) (unhide U2))
          clear FB HI
          go_wp2
          go_ret2
          exact unhide FE
        · have y3 : ¬ (16384 : Int) < (dn : Int) := by omega
          have Z0 := hide (show snE s = 0 by rw [unhide HI, if_pos ⟨h1, h2, hr⟩, if_neg h3])
          have ML := hide (mem_len hr)
          obtain ⟨i, rfl⟩ : ∃ k : Nat, i = (k : Int) := ⟨i.toNat, by omega⟩
          obtain ⟨t, rfl⟩ : ∃ k : Nat, t = (k : Int) := ⟨t.toNat, by omega⟩
          have hi := h1.2
          have ht := h2.2
          rw [Int.toNat_natCast, Int.toNat_natCast] at SI
          have M20 := hide (show mn ≤ 20 by rw [← unhide MN]; exact unhide ML)
          have A1 := hide (saddNumber_calls (w := V2.drew) (sp := none) (c := 0) (b := []) V2.heap.size 0 i rfl (OwnB.ofNil _ _) (by simp) (by omega) (Nat.le_refl _))
          have KY := hide (show ∀ W, Below V2.heap.size V2 W → W.heap[D]? = some (.cells #[.int .i64 (i : Int), .int .i64 (t : Int), .slice h.va vn h.vc, .slice h.la ln h.lc, .slice h.dp dn h.dc] 29 (0, 0)) from fun W u => later_block u (unhide X2))
          have d0 : V2.drew.cell? ⟨D, 0, none⟩ = some (.int .i64 (i : Int)) := box_cell (unhide X2) 0 _ rfl
          have d1 : V2.drew.cell? ⟨D, 1, none⟩ = some (.int .i64 (t : Int)) := box_cell (unhide X2) 1 _ rfl
          go_wp2_with fail
          clear c4
          refine wp_region_held_drew (S := fun w' => w'.cell? ⟨D, 0, none⟩ = some (.int .i64 (i : Int)) ∧ w'.cell? ⟨D, 1, none⟩ = some (.int .i64 (t : Int))) (by kernel_rfl) ?_ (fun hHeld => ?_)
          · try dsimp only
            first | exact ⟨d0, d1⟩ | exact ⟨e0, e1⟩ | exact ⟨f0, f1⟩
          refine held_take 0 (oi := { dst := some 32, op := Op.fieldAddr 29 (Operand.tmp 1) 0, type := 0, pos := "snap.go:25", after := #[], guard := none }) (v := ?_) (by kernel_rfl) rfl (by rfl) (by kernel_rfl) (by kernel_rfl) (fun _ _ _ h => h) ?_ (by assumption) ?_
          rotate_left
          · (intro w hSw; (try dsimp only at hSw); go_simp; try with_reducible rfl)
          try simp only [Act.put, List.setIfInBounds_toArray, List.set_cons_zero, List.set_cons_succ]
          refine held_take 1 (oi := { dst := some 33, op := Op.fieldAddr 23 (Operand.tmp 32) 0, type := 0, pos := "snap.go:25", after := #[{ on := 0, ground := Ground.data }], guard := none }) (v := ?_) (by kernel_rfl) rfl (by rfl) (by kernel_rfl) (by kernel_rfl) (fun _ _ _ h => h) ?_ (by assumption) ?_
          rotate_left
          · (intro w hSw; (try dsimp only at hSw); go_simp; try with_reducible rfl)
          try simp only [Act.put, List.setIfInBounds_toArray, List.set_cons_zero, List.set_cons_succ]
          refine held_take 2 (oi := { dst := some 34, op := Op.load 3 (Operand.tmp 33), type := 3, pos := "snap.go:25", after := #[{ on := 1, ground := Ground.data }], guard := none }) (v := ?_) (by kernel_rfl) rfl (by rfl) (by kernel_rfl) (by kernel_rfl) (fun _ _ _ h => h) ?_ (by assumption) ?_
          rotate_left
          · (intro w hSw; (try dsimp only at hSw); go_simp; try with_reducible rfl)
          try simp only [Act.put, List.setIfInBounds_toArray, List.set_cons_zero, List.set_cons_succ]
          refine held_take 4 (oi := { dst := some 36, op := Op.fieldAddr 29 (Operand.tmp 1) 0, type := 0, pos := "snap.go:25", after := #[], guard := none }) (v := ?_) (by kernel_rfl) rfl (by rfl) (by kernel_rfl) (by kernel_rfl) (fun _ _ _ h => h) ?_ (by assumption) ?_
          rotate_left
          · (intro w hSw; (try dsimp only at hSw); go_simp; try with_reducible rfl)
          try simp only [Act.put, List.setIfInBounds_toArray, List.set_cons_zero, List.set_cons_succ]
          refine held_take 5 (oi := { dst := some 37, op := Op.fieldAddr 23 (Operand.tmp 36) 1, type := 0, pos := "snap.go:25", after := #[{ on := 4, ground := Ground.data }], guard := none }) (v := ?_) (by kernel_rfl) rfl (by rfl) (by kernel_rfl) (by kernel_rfl) (fun _ _ _ h => h) ?_ (by assumption) ?_
          rotate_left
          · (intro w hSw; (try dsimp only at hSw); go_simp; try with_reducible rfl)
          try simp only [Act.put, List.setIfInBounds_toArray, List.set_cons_zero, List.set_cons_succ]
          refine held_take 6 (oi := { dst := some 38, op := Op.load 3 (Operand.tmp 37), type := 3, pos := "snap.go:25", after := #[{ on := 5, ground := Ground.data }], guard := none }) (v := ?_) (by kernel_rfl) rfl (by rfl) (by kernel_rfl) (by kernel_rfl) (fun _ _ _ h => h) ?_ (by assumption) ?_
          rotate_left
          · (intro w hSw; (try dsimp only at hSw); go_simp; try with_reducible rfl)
          try simp only [Act.put, List.setIfInBounds_toArray, List.set_cons_zero, List.set_cons_succ]
          refine held_one 3 (oi := { dst := some 35, op := Op.call { callee := Callee.value (Operand.func 52), args := #[Operand.const (Value.slice none 0 0), Operand.tmp 34], argTypes := #[27, 3] }, type := 27, pos := "snap.go:25", after := #[{ on := 2, ground := Ground.data }], guard := none }) (by kernel_rfl) rfl (fun K hK => ?_)
          go_simp
          first
            | (have hV : A1 = A1 := rfl; clear hV
               go_at_call 52
               refine (unhide A1).mono ?_
               rintro e V3 ⟨sp3, n3, c3, rfl, hn3, ho3, v3⟩
               have U3 := hide (show Below V2.heap.size V2 V3 from ⟨v3.os, v3.tape, v3.output, v3.size, v3.block⟩)
               have e0 := box_cell (unhide KY V3 (unhide U3)) 0 _ rfl
               have e1 := box_cell (unhide KY V3 (unhide U3)) 1 _ rfl
               have A2 := hide (saddNumber_calls (w := V3) V2.heap.size n3 t (unhide hn3) ho3 (by have := numB_six i (by omega); simp; omega) (by omega) (unhide U3).size)
               clear v3 hn3 ho3 A1)
            | (have hV : A2 = A2 := rfl; clear hV
               go_at_call 52
               refine (unhide A2).mono ?_
               rintro e V4 ⟨sp4, n4, c4, rfl, hn4, ho4, v4⟩
               have U4 := hide ((unhide U3).trans v4)
               have f0 := box_cell (unhide KY V4 (unhide U4)) 0 _ rfl
               have f1 := box_cell (unhide KY V4 (unhide U4)) 1 _ rfl
               have O4 := hide ho4
               have N4 := hide (unhide hn4)
               clear v4 hn4 ho4)
          go_wp2_with fail
          refine hK.out _ _ ?_ (fun hHeld => ?_)
          · try dsimp only
            first | exact ⟨d0, d1⟩ | exact ⟨e0, e1⟩ | exact ⟨f0, f1⟩
          clear hK K
          try simp only [Act.put, List.setIfInBounds_toArray, List.set_cons_zero, List.set_cons_succ]
          refine held_one 7 (oi := { dst := some 39, op := Op.call { callee := Callee.value (Operand.func 52), args := #[Operand.tmp 35, Operand.tmp 38], argTypes := #[27, 3] }, type := 27, pos := "snap.go:25", after := #[{ on := 3, ground := Ground.data }, { on := 6, ground := Ground.data }, { on := 3, ground := Ground.chain }], guard := none }) (by kernel_rfl) rfl (fun K hK => ?_)
          go_simp
          first
            | (have hV : A1 = A1 := rfl; clear hV
               go_at_call 52
               refine (unhide A1).mono ?_
               rintro e V3 ⟨sp3, n3, c3, rfl, hn3, ho3, v3⟩
               have U3 := hide (show Below V2.heap.size V2 V3 from ⟨v3.os, v3.tape, v3.output, v3.size, v3.block⟩)
               have e0 := box_cell (unhide KY V3 (unhide U3)) 0 _ rfl
               have e1 := box_cell (unhide KY V3 (unhide U3)) 1 _ rfl
               have A2 := hide (saddNumber_calls (w := V3) V2.heap.size n3 t (unhide hn3) ho3 (by have := numB_six i (by omega); simp; omega) (by omega) (unhide U3).size)
               clear v3 hn3 ho3 A1)
            | (have hV : A2 = A2 := rfl; clear hV
               go_at_call 52
               refine (unhide A2).mono ?_
               rintro e V4 ⟨sp4, n4, c4, rfl, hn4, ho4, v4⟩
               have U4 := hide ((unhide U3).trans v4)
               have f0 := box_cell (unhide KY V4 (unhide U4)) 0 _ rfl
               have f1 := box_cell (unhide KY V4 (unhide U4)) 1 _ rfl
               have O4 := hide ho4
               have N4 := hide (unhide hn4)
               clear v4 hn4 ho4)
          go_wp2_with fail
          refine hK.out _ _ ?_ (fun hHeld => ?_)
          · try dsimp only
            first | exact ⟨d0, d1⟩ | exact ⟨e0, e1⟩ | exact ⟨f0, f1⟩
          clear hK K
          try simp only [Act.put, List.setIfInBounds_toArray, List.set_cons_zero, List.set_cons_succ]
          refine held_take 8 (oi := { dst := some 6, op := Op.assign (Operand.tmp 39), type := 27, pos := "snap.go:25", after := #[{ on := 7, ground := Ground.data }, { on := 7, ground := Ground.chain }, { on := 0, ground := Ground.phase }, { on := 1, ground := Ground.phase }, { on := 2, ground := Ground.phase }, { on := 3, ground := Ground.phase }, { on := 4, ground := Ground.phase }, { on := 5, ground := Ground.phase }, { on := 6, ground := Ground.phase }, { on := 7, ground := Ground.phase }], guard := none }) (v := ?_) (by kernel_rfl) rfl (by rfl) (by kernel_rfl) (by kernel_rfl) (fun _ _ _ h => h) ?_ (by assumption) ?_
          rotate_left
          · (intro w hSw; (try dsimp only at hSw); go_simp; try with_reducible rfl)
          try simp only [Act.put, List.setIfInBounds_toArray, List.set_cons_zero, List.set_cons_succ]
          refine wpAnyH_done (by kernel_rfl) ?_ _
          have EQ4 : [] ++ numB i ++ numB t = numB i ++ numB t := by simp
          rw [EQ4] at O4 N4
          have L4 := hide (show (numB i ++ numB t).length ≤ 12 by have h1 := numB_six i (by omega); have h2 := numB_six t (by omega); rw [List.length_append]; omega)
          have HD := hide ((unhide HS).d.later ((unhide U2').trans ((unhide U4).mono (unhide U2').size)))
          have HDL := hide (show ∀ g o, h.dp = some ⟨g, o, none⟩ → 0 < s.d.length → g < V2.heap.size from fun g o e h0 => Nat.lt_of_lt_of_le (bytesLt (unhide HS).d g o e h0) (unhide U2').size)
          have A3 := hide (addPart_calls (w := V4.drew) V2.heap.size n4 (unhide N4) ((unhide O4).later ((Below.refl _ _).drew)) (by have := unhide L4; omega) (unhide U4).size mp mn mc (listB s.v ++ listB s.l) (unhide MN) (((unhide MO).bytes.later (unhide U4)).later ((Below.refl _ _).drew)) (unhide MO).nil0 (bytesLt (unhide MO).bytes) (by have := unhide M20; omega))
          have g0 : V4.drew.cell? ⟨D, 4, none⟩ = some (.slice h.dp dn h.dc) := box_cell (unhide KY V4 (unhide U4)) 4 _ rfl
          have SL := hide (snI_len (unhide Z0))
          clear d0 d1 e0 e1 f0 f1 EQ4 A2
          go_wp2_with fail
          refine wp_region_held_drew (S := fun w' => w'.cell? ⟨D, 4, none⟩ = some (.slice h.dp dn h.dc)) (by kernel_rfl) ?_ (fun hHeld => ?_)
          · try dsimp only
            first | exact g0 | exact g1 | exact g2 | exact g3
          refine held_take 0 (oi := { dst := some 40, op := Op.move (Operand.tmp 6), type := 27, pos := "snap.go:26", after := #[], guard := none }) (v := ?_) (by kernel_rfl) rfl (by rfl) (by kernel_rfl) (by kernel_rfl) (fun _ _ _ h => h) ?_ (by assumption) ?_
          rotate_left
          · (intro w hSw; (try dsimp only at hSw); go_simp; try with_reducible rfl)
          try simp only [Act.put, List.setIfInBounds_toArray, List.set_cons_zero, List.set_cons_succ]
          refine held_take 1 (oi := { dst := some 41, op := Op.move (Operand.tmp 4), type := 27, pos := "snap.go:26", after := #[], guard := none }) (v := ?_) (by kernel_rfl) rfl (by rfl) (by kernel_rfl) (by kernel_rfl) (fun _ _ _ h => h) ?_ (by assumption) ?_
          rotate_left
          · (intro w hSw; (try dsimp only at hSw); go_simp; try with_reducible rfl)
          try simp only [Act.put, List.setIfInBounds_toArray, List.set_cons_zero, List.set_cons_succ]
          refine held_take 3 (oi := { dst := some 43, op := Op.fieldAddr 29 (Operand.tmp 1) 2, type := 0, pos := "snap.go:26", after := #[], guard := none }) (v := ?_) (by kernel_rfl) rfl (by rfl) (by kernel_rfl) (by kernel_rfl) (fun _ _ _ h => h) ?_ (by assumption) ?_
          rotate_left
          · (intro w hSw; (try dsimp only at hSw); go_simp; try with_reducible rfl)
          try simp only [Act.put, List.setIfInBounds_toArray, List.set_cons_zero, List.set_cons_succ]
          refine held_take 4 (oi := { dst := some 44, op := Op.load 27 (Operand.tmp 43), type := 27, pos := "snap.go:26", after := #[{ on := 3, ground := Ground.data }], guard := none }) (v := ?_) (by kernel_rfl) rfl (by rfl) (by kernel_rfl) (by kernel_rfl) (fun _ _ _ h => h) ?_ (by assumption) ?_
          rotate_left
          · (intro w hSw; (try dsimp only at hSw); go_simp; try with_reducible rfl)
          try simp only [Act.put, List.setIfInBounds_toArray, List.set_cons_zero, List.set_cons_succ]
          refine held_one 2 (oi := { dst := some 42, op := Op.call { callee := Callee.value (Operand.func 54), args := #[Operand.tmp 40, Operand.tmp 41], argTypes := #[27, 27] }, type := 27, pos := "snap.go:26", after := #[{ on := 0, ground := Ground.data }, { on := 1, ground := Ground.data }], guard := none }) (by kernel_rfl) rfl (fun K hK => ?_)
          go_simp
          first
            | (have hV : A3 = A3 := rfl; clear hV
               go_at_call 54
               refine (unhide A3).mono ?_
               rintro e V5 ⟨sp5, n5, c5, rfl, hn5, ho5, v5⟩
               have U5 := hide ((unhide U4).trans (show Below V2.heap.size V4 V5 from ⟨v5.os, v5.tape, v5.output, v5.size, v5.block⟩))
               have g1 := box_cell (unhide KY V5 (unhide U5)) 4 _ rfl
               have A4 := hide (addPart_calls (w := V5) V2.heap.size n5 (unhide hn5) ho5 (by have h1 := unhide L4; have h2 := unhide ML; have h3 := numB_six mn (by have := unhide M20; omega); simp only [List.length_append] at *; omega) (unhide U5).size h.dp dn h.dc s.d (unhide DL) ((unhide HS).d.later ((unhide U2').trans ((unhide U5).mono (unhide U2').size))) (unhide HS).dz (unhide HDL) (by omega))
               clear v5 hn5 ho5 A3)
            | (have hV : A4 = A4 := rfl; clear hV
               go_at_call 54
               refine (unhide A4).mono ?_
               rintro e V6 ⟨sp6, n6, c6, rfl, hn6, ho6, v6⟩
               have U6 := hide ((unhide U5).trans v6)
               have g2 := box_cell (unhide KY V6 (unhide U6)) 4 _ rfl
               have EQ6 : numB i ++ numB t ++ (numB mn ++ (listB s.v ++ listB s.l)) ++ (numB dn ++ s.d) = snI s := by
                 rw [unhide SI]
                 unfold inB
                 rw [unhide MN, unhide DL]
                 simp only [List.append_assoc]
               rw [EQ6] at hn6 ho6
               have O6 := hide ho6
               have N6 := hide (unhide hn6)
               have FC := hide (frame_ok' sp6 n6 c6 (snI s) V6 (unhide hn6) ho6.bytes (by have := unhide SL; omega))
               clear v6 hn6 ho6 A4 EQ6)
            | (have hV : FC = FC := rfl; clear hV
               go_at_call 53
               refine (unhide FC).mono ?_
               rintro e V7 ⟨g, rfl, v7, hg, hcs⟩
               have g3 := cell_later v7 g2
               have U7 := hide ((unhide U2').trans (((unhide U6).trans (v7.mono (unhide U6).size)).mono (unhide U2').size))
               have SB := hide (show snB s = frameB (snI s) by unfold snB; rw [if_pos (unhide Z0)])
               have FE := hide (show PutS s w (.returned (.tuple #[.slice (some ⟨g, 0, none⟩) (8 + n6) (8 + n6), .int .i64 0])) V7 from by
                 refine ⟨unhide U7, .inr ⟨unhide Z0, g, 8 + n6, rfl, by rw [unhide SB, frameB_length, unhide N6], ?_⟩⟩
                 have h0 := OwnB.ofBlock (base := w.heap.size) hcs (Nat.le_trans (unhide U2').size (Nat.le_trans (unhide U6).size hg)) (frameB_lt (unhide O6).bytes.lt (by have := unhide SL; omega)) (by rw [frameB_length]; have := unhide SL; simp only [maxLen]; omega)
                 rw [frameB_length, unhide N6] at h0
                 rw [unhide SB]
                 exact h0)
               clear v7 hg hcs FC)
          go_wp2_with fail
          refine hK.out _ _ ?_ (fun hHeld => ?_)
          · try dsimp only
            first | exact g0 | exact g1 | exact g2 | exact g3
          clear hK K
          try simp only [Act.put, List.setIfInBounds_toArray, List.set_cons_zero, List.set_cons_succ]
          refine held_one 5 (oi := { dst := some 45, op := Op.call { callee := Callee.value (Operand.func 54), args := #[Operand.tmp 42, Operand.tmp 44], argTypes := #[27, 27] }, type := 27, pos := "snap.go:26", after := #[{ on := 2, ground := Ground.data }, { on := 4, ground := Ground.data }, { on := 2, ground := Ground.chain }], guard := none }) (by kernel_rfl) rfl (fun K hK => ?_)
          go_simp
          first
            | (have hV : A3 = A3 := rfl; clear hV
               go_at_call 54
               refine (unhide A3).mono ?_
               rintro e V5 ⟨sp5, n5, c5, rfl, hn5, ho5, v5⟩
               have U5 := hide ((unhide U4).trans (show Below V2.heap.size V4 V5 from ⟨v5.os, v5.tape, v5.output, v5.size, v5.block⟩))
               have g1 := box_cell (unhide KY V5 (unhide U5)) 4 _ rfl
               have A4 := hide (addPart_calls (w := V5) V2.heap.size n5 (unhide hn5) ho5 (by have h1 := unhide L4; have h2 := unhide ML; have h3 := numB_six mn (by have := unhide M20; omega); simp only [List.length_append] at *; omega) (unhide U5).size h.dp dn h.dc s.d (unhide DL) ((unhide HS).d.later ((unhide U2').trans ((unhide U5).mono (unhide U2').size))) (unhide HS).dz (unhide HDL) (by omega))
               clear v5 hn5 ho5 A3)
            | (have hV : A4 = A4 := rfl; clear hV
               go_at_call 54
               refine (unhide A4).mono ?_
               rintro e V6 ⟨sp6, n6, c6, rfl, hn6, ho6, v6⟩
               have U6 := hide ((unhide U5).trans v6)
               have g2 := box_cell (unhide KY V6 (unhide U6)) 4 _ rfl
               have EQ6 : numB i ++ numB t ++ (numB mn ++ (listB s.v ++ listB s.l)) ++ (numB dn ++ s.d) = snI s := by
                 rw [unhide SI]
                 unfold inB
                 rw [unhide MN, unhide DL]
                 simp only [List.append_assoc]
               rw [EQ6] at hn6 ho6
               have O6 := hide ho6
               have N6 := hide (unhide hn6)
               have FC := hide (frame_ok' sp6 n6 c6 (snI s) V6 (unhide hn6) ho6.bytes (by have := unhide SL; omega))
               clear v6 hn6 ho6 A4 EQ6)
            | (have hV : FC = FC := rfl; clear hV
               go_at_call 53
               refine (unhide FC).mono ?_
               rintro e V7 ⟨g, rfl, v7, hg, hcs⟩
               have g3 := cell_later v7 g2
               have U7 := hide ((unhide U2').trans (((unhide U6).trans (v7.mono (unhide U6).size)).mono (unhide U2').size))
               have SB := hide (show snB s = frameB (snI s) by unfold snB; rw [if_pos (unhide Z0)])
               have FE := hide (show PutS s w (.returned (.tuple #[.slice (some ⟨g, 0, none⟩) (8 + n6) (8 + n6), .int .i64 0])) V7 from by
                 refine ⟨unhide U7, .inr ⟨unhide Z0, g, 8 + n6, rfl, by rw [unhide SB, frameB_length, unhide N6], ?_⟩⟩
                 have h0 := OwnB.ofBlock (base := w.heap.size) hcs (Nat.le_trans (unhide U2').size (Nat.le_trans (unhide U6).size hg)) (frameB_lt (unhide O6).bytes.lt (by have := unhide SL; omega)) (by rw [frameB_length]; have := unhide SL; simp only [maxLen]; omega)
                 rw [frameB_length, unhide N6] at h0
                 rw [unhide SB]
                 exact h0)
               clear v7 hg hcs FC)
          go_wp2_with fail
          refine hK.out _ _ ?_ (fun hHeld => ?_)
          · try dsimp only
            first | exact g0 | exact g1 | exact g2 | exact g3
          clear hK K
          try simp only [Act.put, List.setIfInBounds_toArray, List.set_cons_zero, List.set_cons_succ]
          refine held_one 6 (oi := { dst := some 46, op := Op.call { callee := Callee.value (Operand.func 53), args := #[Operand.tmp 45], argTypes := #[27] }, type := 32, pos := "snap.go:26", after := #[{ on := 5, ground := Ground.data }, { on := 5, ground := Ground.chain }], guard := none }) (by kernel_rfl) rfl (fun K hK => ?_)
          go_simp
          first
            | (have hV : A3 = A3 := rfl; clear hV
               go_at_call 54
               refine (unhide A3).mono ?_
               rintro e V5 ⟨sp5, n5, c5, rfl, hn5, ho5, v5⟩
               have U5 := hide ((unhide U4).trans (show Below V2.heap.size V4 V5 from ⟨v5.os, v5.tape, v5.output, v5.size, v5.block⟩))
               have g1 := box_cell (unhide KY V5 (unhide U5)) 4 _ rfl
               have A4 := hide (addPart_calls (w := V5) V2.heap.size n5 (unhide hn5) ho5 (by have h1 := unhide L4; have h2 := unhide ML; have h3 := numB_six mn (by have := unhide M20; omega); simp only [List.length_append] at *; omega) (unhide U5).size h.dp dn h.dc s.d (unhide DL) ((unhide HS).d.later ((unhide U2').trans ((unhide U5).mono (unhide U2').size))) (unhide HS).dz (unhide HDL) (by omega))
               clear v5 hn5 ho5 A3)
            | (have hV : A4 = A4 := rfl; clear hV
               go_at_call 54
               refine (unhide A4).mono ?_
               rintro e V6 ⟨sp6, n6, c6, rfl, hn6, ho6, v6⟩
               have U6 := hide ((unhide U5).trans v6)
               have g2 := box_cell (unhide KY V6 (unhide U6)) 4 _ rfl
               have EQ6 : numB i ++ numB t ++ (numB mn ++ (listB s.v ++ listB s.l)) ++ (numB dn ++ s.d) = snI s := by
                 rw [unhide SI]
                 unfold inB
                 rw [unhide MN, unhide DL]
                 simp only [List.append_assoc]
               rw [EQ6] at hn6 ho6
               have O6 := hide ho6
               have N6 := hide (unhide hn6)
               have FC := hide (frame_ok' sp6 n6 c6 (snI s) V6 (unhide hn6) ho6.bytes (by have := unhide SL; omega))
               clear v6 hn6 ho6 A4 EQ6)
            | (have hV : FC = FC := rfl; clear hV
               go_at_call 53
               refine (unhide FC).mono ?_
               rintro e V7 ⟨g, rfl, v7, hg, hcs⟩
               have g3 := cell_later v7 g2
               have U7 := hide ((unhide U2').trans (((unhide U6).trans (v7.mono (unhide U6).size)).mono (unhide U2').size))
               have SB := hide (show snB s = frameB (snI s) by unfold snB; rw [if_pos (unhide Z0)])
               have FE := hide (show PutS s w (.returned (.tuple #[.slice (some ⟨g, 0, none⟩) (8 + n6) (8 + n6), .int .i64 0])) V7 from by
                 refine ⟨unhide U7, .inr ⟨unhide Z0, g, 8 + n6, rfl, by rw [unhide SB, frameB_length, unhide N6], ?_⟩⟩
                 have h0 := OwnB.ofBlock (base := w.heap.size) hcs (Nat.le_trans (unhide U2').size (Nat.le_trans (unhide U6).size hg)) (frameB_lt (unhide O6).bytes.lt (by have := unhide SL; omega)) (by rw [frameB_length]; have := unhide SL; simp only [maxLen]; omega)
                 rw [frameB_length, unhide N6] at h0
                 rw [unhide SB]
                 exact h0)
               clear v7 hg hcs FC)
          go_wp2_with fail
          refine hK.out _ _ ?_ (fun hHeld => ?_)
          · try dsimp only
            first | exact g0 | exact g1 | exact g2 | exact g3
          clear hK K
          try simp only [Act.put, List.setIfInBounds_toArray, List.set_cons_zero, List.set_cons_succ]
          refine held_take 7 (oi := { dst := some 47, op := Op.extract (Operand.tmp 46) 0, type := 27, pos := "snap.go:26", after := #[{ on := 6, ground := Ground.data }], guard := none }) (v := ?_) (by kernel_rfl) rfl (by rfl) (by kernel_rfl) (by kernel_rfl) (fun _ _ _ h => h) ?_ (by assumption) ?_
          rotate_left
          · (intro w hSw; (try dsimp only at hSw); go_simp; try with_reducible rfl)
          try simp only [Act.put, List.setIfInBounds_toArray, List.set_cons_zero, List.set_cons_succ]
          refine held_take 8 (oi := { dst := some 48, op := Op.extract (Operand.tmp 46) 1, type := 31, pos := "snap.go:26", after := #[{ on := 6, ground := Ground.data }], guard := none }) (v := ?_) (by kernel_rfl) rfl (by rfl) (by kernel_rfl) (by kernel_rfl) (fun _ _ _ h => h) ?_ (by assumption) ?_
          rotate_left
          · (intro w hSw; (try dsimp only at hSw); go_simp; try with_reducible rfl)
          try simp only [Act.put, List.setIfInBounds_toArray, List.set_cons_zero, List.set_cons_succ]
          refine held_take 9 (oi := { dst := some 2, op := Op.assign (Operand.tmp 47), type := 27, pos := "snap.go:26", after := #[{ on := 7, ground := Ground.data }, { on := 6, ground := Ground.chain }, { on := 0, ground := Ground.phase }, { on := 1, ground := Ground.phase }, { on := 2, ground := Ground.phase }, { on := 3, ground := Ground.phase }, { on := 4, ground := Ground.phase }, { on := 5, ground := Ground.phase }, { on := 6, ground := Ground.phase }, { on := 7, ground := Ground.phase }, { on := 8, ground := Ground.phase }], guard := none }) (v := ?_) (by kernel_rfl) rfl (by rfl) (by kernel_rfl) (by kernel_rfl) (fun _ _ _ h => h) ?_ (by assumption) ?_
          rotate_left
          · (intro w hSw; (try dsimp only at hSw); go_simp; try with_reducible rfl)
          try simp only [Act.put, List.setIfInBounds_toArray, List.set_cons_zero, List.set_cons_succ]
          refine held_take 10 (oi := { dst := some 3, op := Op.assign (Operand.tmp 48), type := 31, pos := "snap.go:26", after := #[{ on := 8, ground := Ground.data }, { on := 9, ground := Ground.chain }, { on := 0, ground := Ground.phase }, { on := 1, ground := Ground.phase }, { on := 2, ground := Ground.phase }, { on := 3, ground := Ground.phase }, { on := 4, ground := Ground.phase }, { on := 5, ground := Ground.phase }, { on := 6, ground := Ground.phase }, { on := 7, ground := Ground.phase }, { on := 8, ground := Ground.phase }, { on := 9, ground := Ground.phase }], guard := none }) (v := ?_) (by kernel_rfl) rfl (by rfl) (by kernel_rfl) (by kernel_rfl) (fun _ _ _ h => h) ?_ (by assumption) ?_
          rotate_left
          · (intro w hSw; (try dsimp only at hSw); go_simp; try with_reducible rfl)
          try simp only [Act.put, List.setIfInBounds_toArray, List.set_cons_zero, List.set_cons_succ]
          refine wpAnyH_done (by kernel_rfl) ?_ _
          clear FB HI
          generalize 8 + n6 = n7 at *
          go_wp2
          go_ret2
          exact unhide FE
    · have P1 := hide (fun W => isPos_yes i W h1)
      have P2 := hide (fun W => isPos_no t W h2)
      go_enter Tryz.func15, Tryz.ntmps15
      go_wp2_with fail
      generalize w.alloc _ = W1 at *
      go_at_call 50
      refine (unhide P1 _).mono ?_
      rintro e V1 ⟨rfl, rfl⟩
      go_wp2_with fail
      go_at_call 50
      refine (unhide P2 _).mono ?_
      rintro e V1 ⟨rfl, rfl⟩
      have FE := hide (unhide FB 2 V1 (by rw [unhide HI, if_neg (fun q => h2 q.2.1)]) (by omega) (unhide u1))
      clear FB HI
      go_wp2
      go_ret2
      exact unhide FE
  · have P1 := hide (fun W => isPos_no i W h1)
    go_enter Tryz.func15, Tryz.ntmps15
    go_wp2_with fail
    generalize w.alloc _ = W1 at *
    go_at_call 50
    refine (unhide P1 _).mono ?_
    rintro e V1 ⟨rfl, rfl⟩
    have FE := hide (unhide FB 2 V1 (by rw [unhide HI, if_neg (fun q => h1 q.1)]) (by omega) (unhide u1))
    clear FB HI
    go_wp2
    go_ret2
    exact unhide FE
end Go.Proofs.YtagncghpfdjkmaaGreatDoor
end
/- Snapshots: names of files and their numbers; files of one's own. -/
section
namespace Go.Proofs.YtagncghpfdjkmaaGreatDoor
open Go.ChangeShapes Go.WideShapes Go.ChangeAt Go.RowKit
set_option linter.unusedVariables false

def snapW : Nm := [115, 110, 97, 112, 45]
def spareS : Nm := [115, 110, 97, 112, 46, 116, 109, 112]
def snNm (n : Nat) : Nm := snapW ++ Lib.decDigits n
/-- The index of a snapshot's file; 0: the name is none. -/
def numS (s : Nm) : Nat := match Lib.atoiAll (Lib.trimPrefix s snapW) with
  | .ok v => if 1 ≤ v ∧ v ≤ 1099511627776 ∧ snNm v.toNat = s then v.toNat else 0
  | _ => 0
theorem pre_snap (l : Nm) : Lib.hasPrefix (snapW ++ l) snapW = true := by
  unfold Lib.hasPrefix
  exact List.isPrefixOf_iff_prefix.2 (List.prefix_append _ _)
theorem trim_snap (l : Nm) : Lib.trimPrefix (snapW ++ l) snapW = l := by
  unfold Lib.trimPrefix
  rw [if_pos (pre_snap l), List.drop_left]
theorem numS_snNm (n : Nat) (h1 : 1 ≤ n) (h2 : n ≤ 1099511627776) : numS (snNm n) = n := by
  unfold numS
  rw [show Lib.trimPrefix (snNm n) snapW = Lib.decDigits n from trim_snap _, atoi_dec n (by omega)]
  dsimp only
  rw [if_pos ⟨by omega, by omega, by rw [Int.toNat_natCast]⟩, Int.toNat_natCast]
theorem numS_is {s : Nm} {n : Nat} (h : numS s = n) (hn : 0 < n) : s = snNm n ∧ n ≤ 1099511627776 := by
  unfold numS at h
  split at h
  · split at h
    · rename_i v _ hv
      subst h
      exact ⟨hv.2.2.symm, by omega⟩
    · omega
  · omega
theorem numS_le (s : Nm) : numS s ≤ 1099511627776 := by
  unfold numS
  split
  · split
    · omega
    · omega
  · omega
theorem spare_num : numS spareS = 0 := by decide +kernel
theorem snNm_len (n : Nat) (hn : n < 10000000000000) : (snNm n).length ≤ 18 := by
  unfold snNm
  rw [List.length_append]
  have := dec_len 12 n hn
  simp [snapW]
  omega
/-- A snapshot's file: its name, its index. -/
abbrev Fl := Nm × Nat
theorem info_parts {P : Program} {t : TypeId} {z : Option Value} {n k : Nat} (h : (P.info? t).map (fun i => (i.zero, i.size, i.bytes)) = some (z, n, k)) : ∃ i, P.info? t = some i ∧ i.zero = z ∧ i.size = n ∧ i.bytes = k := by
  cases hi : P.info? t with
  | none => rw [hi] at h; cases h
  | some i =>
    rw [hi] at h
    simp only [Option.map_some, Option.some.injEq, Prod.mk.injEq] at h
    exact ⟨i, rfl, h.1, h.2.1, h.2.2⟩
def flRow (t : Fl) : List Value := [.string (str t.1), .int .i64 (t.2 : Int)]
def rowsF (l : List Fl) : List Value := l.flatMap flRow
theorem rowsF_length (l : List Fl) : (rowsF l).length = l.length * 2 := by
  induction l with
  | nil => rfl
  | cons x xs ih =>
    simp only [rowsF, List.flatMap_cons, List.length_append, List.length_cons] at ih ⊢
    rw [ih, show (flRow x).length = 2 from rfl]
    omega
theorem rowsF_get : ∀ (xs : List Fl) (i f : Nat) (hi : i < xs.length) (_ : f < 2), (rowsF xs)[i * 2 + f]? = (flRow xs[i])[f]?
  | [], i, _, hi, _ => by simp at hi
  | x :: xs, 0, f, _, hf => by
    simp only [rowsF, List.flatMap_cons, Nat.zero_mul, Nat.zero_add, List.getElem_cons_zero]
    rw [List.getElem?_append_left (show f < (flRow x).length from hf)]
  | x :: xs, i + 1, f, hi, hf => by
    have ih := rowsF_get xs i f (by simpa using hi) hf
    simp only [rowsF, List.flatMap_cons, List.getElem_cons_succ] at ih ⊢
    rw [List.getElem?_append_right (by rw [show (flRow x).length = 2 from rfl]; omega)]
    have e4 : (i + 1) * 2 + f - (flRow x).length = i * 2 + f := by rw [show (flRow x).length = 2 from rfl]; omega
    rw [e4]
    exact ih
theorem fl_oneCell (l : List Fl) : ∀ u ∈ rowsF l, u.oneCell' = true := by
  intro u hu
  obtain ⟨t, _, ht⟩ := List.mem_flatMap.1 hu
  simp only [flRow, List.mem_cons, List.not_mem_nil, or_false] at ht
  rcases ht with rfl | rfl <;> rfl
theorem infoF : (Tryz.prog.info? 111).map (fun i => (i.zero, i.size, i.bytes)) = some (some (.agg #[.string ByteArray.empty, .int .i64 0]), 2, 24) := by kernel_rfl
/-- Targets of one's own. -/
def OwnF (base : Nat) (w : World) (sp : Option Addr) (c : Nat) (l : List Fl) : Prop := w.ownsRow base 111 2 (.slice sp l.length c) l.length (rowsF l)
theorem OwnF.ofNil (base : Nat) (w : World) : OwnF base w none 0 [] := w.ownsRow_nil base 111 2
theorem OwnF.at_ {base : Nat} {w : World} {sp : Option Addr} {c : Nat} {l : List Fl} (h : OwnF base w sp c l) (i : Nat) (hi : i < l.length) : ∃ g, sp = some ⟨g, 0, none⟩ ∧ base ≤ g ∧ g < w.heap.size ∧ w.cell? ⟨g, i * 2, none⟩ = some (.string (str l[i].1)) ∧ w.cell? ⟨g, i * 2 + 1, none⟩ = some (.int .i64 (l[i].2 : Int)) := by
  rcases h.2 with ⟨hv, h0⟩ | ⟨g, cap, cur, hv, hb, hg, hle, hmx, hsz, ht⟩
  · omega
  · simp only [Value.slice.injEq] at hv
    obtain ⟨rfl, _, rfl⟩ := hv
    refine ⟨g, rfl, hb, (Array.getElem?_eq_some_iff.1 hg).1, ?_, ?_⟩
    · have hk := rowsF_get l i 0 hi (by omega)
      rw [cell_of_row w g _ cur _ _ hg, ← Array.getElem?_toList]
      have hj : i * 2 + 0 < l.length * 2 := by omega
      rw [← ht, List.getElem?_take, if_pos hj] at hk
      exact hk
    · have hk := rowsF_get l i 1 hi (by omega)
      rw [cell_of_row w g _ cur _ _ hg, ← Array.getElem?_toList]
      have hj : i * 2 + 1 < l.length * 2 := by omega
      rw [← ht, List.getElem?_take, if_pos hj] at hk
      exact hk
theorem run_appendF {base : Nat} {w : World} {sp : Option Addr} {c : Nat} {l : List Fl} (hown : OwnF base w sp c l) (B : Nat) (ys : List Fl) (m : Nat) (hm : ys.length = m) (hB : w.heap[B]? = some (.cells (rowsF ys).toArray 111 (0, 0))) (hn : (l.length + m) * 24 ≤ 140737488355328) (hbase : base ≤ w.heap.size) (ty : TypeId) :
    ∃ sp' c' w', (Builtin.append_ #[133, 133] ty #[.slice sp l.length c, .slice (some ⟨B, 0, none⟩) m m]).run Tryz.prog w = .ok (.slice sp' (l.length + m) c') w' ∧ OwnF base w' sp' c' (l ++ ys) ∧ Below base w w' := by
  obtain ⟨i0, hi, hz0, hz1, hz2⟩ := info_parts infoF
  obtain ⟨v', w', hrun, h1, h2, _, h5⟩ := run_append_own_at (P := Tryz.prog) w base 133 ty 111 i0 _ 2 24 Tryz.underlying133 hi hz0 hz1 hz2 rfl (by omega) _ _ _ hown ⟨B, 0, none⟩ m m (rowsF ys) (by rw [rowsF_length, hm])
    (fun j u hu => by have := World.news_of_block hB j u; simp only at this; exact this hu) (fl_oneCell ys) (by simp only [maxLen]; omega) (by omega) hbase
  have hv : ∃ sp' c', v' = .slice sp' (l.length + m) c' := by
    rcases h1.2 with ⟨hv, h0⟩ | ⟨g, cap, cur, hv, _⟩
    · exact ⟨none, 0, by rw [hv, h0]⟩
    · exact ⟨_, _, hv⟩
  obtain ⟨sp', c', rfl⟩ := hv
  refine ⟨sp', c', w', hrun, ?_, (Below.refl base w).grown h2 hbase (fun g hg => (hown.lt g hg).1)⟩
  unfold OwnF
  rw [List.length_append, hm, show rowsF (l ++ ys) = rowsF l ++ rowsF ys from by simp [rowsF]]
  exact h1
theorem wpList_appendF {w : World} {ops : Array Oper} {rest : List Oper} {o : Oper} {a : Act} {Q : Exit → Act → World → Prop} (hgd : o.guard = none) (s x : Operand)
    (ho : o.op = .call { callee := .builtin .append, args := #[s, x], argTypes := #[133, 133] })
    (base : Nat) (sp : Option Addr) (n c : Nat) (l : List Fl) (hs : a.eval s = .slice sp n c) (hn : l.length = n) (hown : OwnF base w sp c l) (B : Nat) (ys : List Fl) (m : Nat) (hm : ys.length = m) (hx : a.eval x = .slice (some ⟨B, 0, none⟩) m m)
    (hB : w.heap[B]? = some (.cells (rowsF ys).toArray 111 (0, 0))) (hsz : (n + m) * 24 ≤ 140737488355328) (hbase : base ≤ w.heap.size)
    (hk : ∀ sp' c' w', OwnF base w' sp' c' (l ++ ys) → Below base w w' → wpList Tryz.prog ops Q rest (a.put o.dst (.slice sp' (n + m) c')) w') :
    wpList Tryz.prog ops Q (o :: rest) a w := by
  subst hn
  refine wpList_plain hgd fun K hK => ?_
  obtain ⟨sp', c', w', hrun, h1, h2⟩ := run_appendF hown B ys m hm hB hsz hbase o.type
  unfold Oper.wp
  simp [execOp, ho, resolve, invoke, builtin, hs, hx, hrun, Result.andThen]
  exact hK _ _ (hk sp' c' w' h1 h2)
theorem OwnF.below {base : Nat} {w w' : World} {sp : Option Addr} {c : Nat} {l : List Fl} (h : OwnF base w sp c l) (hb : Below w.heap.size w w') : OwnF base w' sp c l := by
  refine ⟨h.1, ?_⟩
  rcases h.2 with hv | ⟨g, cap, cur, hv, hbg, hg, r⟩
  · exact .inl hv
  · exact .inr ⟨g, cap, cur, hv, hbg, (hb.block g (Array.getElem?_eq_some_iff.1 hg).1).trans hg, r⟩
end Go.Proofs.YtagncghpfdjkmaaGreatDoor
end
