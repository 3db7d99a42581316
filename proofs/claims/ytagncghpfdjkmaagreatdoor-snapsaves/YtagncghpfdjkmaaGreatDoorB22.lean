/- Snapshots: the files among names, the newest first. -/
import Derived.Test.YtagncghpfdjkmaaGreatDoorB21
namespace Go.Proofs.YtagncghpfdjkmaaGreatDoor
open Go.ChangeShapes Go.WideShapes Go.ChangeAt Go.RowKit
set_option linter.unusedVariables false

/-- The snapshots' files among names. -/
def filS (l : List Nm) : List Fl := l.filterMap (fun s => if 0 < numS s then some (s, numS s) else none)
theorem filS_no {l : List Nm} {s : Nm} (h : numS s = 0) : filS (l ++ [s]) = filS l := by
  unfold filS
  rw [List.filterMap_append]
  simp [h]
theorem filS_yes {l : List Nm} {s : Nm} {n : Nat} (h : numS s = n) (hn : 0 < n) : filS (l ++ [s]) = filS l ++ [(s, n)] := by
  unfold filS
  rw [List.filterMap_append]
  simp [h, hn]
theorem filS_len (l : List Nm) : (filS l).length ≤ l.length := List.length_filterMap_le _ _
theorem trimS_len (s : Nm) (hs : s.length ≤ 64) : (Lib.trimPrefix s snapW).length ≤ 64 := by
  unfold Lib.trimPrefix
  split
  · rw [List.length_drop]; omega
  · exact hs
theorem numS_ok {s : Nm} {v : Int} (h : Lib.atoiAll (Lib.trimPrefix s snapW) = .ok v) : numS s = if 1 ≤ v ∧ v ≤ 1099511627776 ∧ snNm v.toNat = s then v.toNat else 0 := by
  unfold numS
  rw [h]
theorem numS_bad {s : Nm} (h : ∀ v, Lib.atoiAll (Lib.trimPrefix s snapW) ≠ .ok v) : numS s = 0 := by
  unfold numS
  split
  · rename_i v hv
    exact absurd hv (h v)
  · rfl
set_option maxRecDepth 20000 in
set_option maxHeartbeats 16000000 in
theorem filesOf_loop {base : Nat} {w : World} {sp : Option Addr} {n c : Nat} {l : List Nm} (h : OwnN base w sp c l) (hn : l.length = n) (hm : n ≤ 1000) (hl : ∀ s ∈ l, s.length ≤ 64) (hz : Tz w) (Q : Ending → World → Prop)
    (SF : ∀ sp2 c2 V, OwnF w.heap.size V sp2 c2 (filS l) → Below w.heap.size w V → Calls Tryz.prog 121 #[.slice sp2 (filS l).length c2, .func (.func 122) #[] #[]] V fun e w' => e = .returned (.tuple #[]) ∧ Q (.returned (.slice sp2 (filS l).length c2)) w') :
    Calls Tryz.prog 87 #[.slice sp n c] w Q := by
  have H := hide h
  have HN := hide hn
  have HL := hide hl
  have HZ := hide hz
  have SFH := hide SF
  clear h hn hl hz SF
  go_enter Tryz.func87, Tryz.ntmps87
  go_wp2_with fail
  go_loopw [3, 11] (fun v i wr => ∃ (j m : Nat) (sp2 : Option Addr) (c2 : Nat), j ≤ n ∧ i = .int .i64 (j : Int) ∧ v = .slice sp2 m c2 ∧ Hid ((filS (l.take j)).length = m) ∧ m ≤ j ∧ Hid (OwnF w.heap.size wr sp2 c2 (filS (l.take j))) ∧ Hid (Below w.heap.size w wr)) (fun _ i _ => n - (intOf i).toNat)
  case atStart => exact ⟨0, 0, none, 0, by omega, rfl, rfl, hide rfl, by omega, hide (OwnF.ofNil _ _), hide (Below.refl _ _)⟩
  case round =>
    obtain ⟨j, m, sp2, c2, hj, rfl, rfl, HM, hmj, O, F⟩ := hrel
    by_cases hjn : j < n
    · have y0 : (0 : Int) ≤ (j : Int) := by omega
      have y1 : (j : Int) < (n : Int) := by omega
      have hjl : j < l.length := by rw [unhide HN]; exact hjn
      obtain ⟨g, rfl, q0⟩ := (unhide H).cell j hjl
      have p0 := cell_later (unhide F) q0
      have TK := hide (List.take_succ_eq_append_getElem hjl)
      have h64 := unhide HL _ (List.getElem_mem hjl)
      generalize l[j] = s at *
      have TP := hide (show ∀ W, Calls Tryz.prog 120 #[.string (str s), .string ⟨#[115, 110, 97, 112, 45]⟩] W fun e w' => e = .returned (.string (str (Lib.trimPrefix s snapW))) ∧ w' = W from fun W => Tryz.strings_TrimPrefix (str s) ⟨#[115, 110, 97, 112, 45]⟩ W)
      have htl := trimS_len s h64
      clear q0
      by_cases hok : ∃ v, Lib.atoiAll (Lib.trimPrefix s snapW) = .ok v
      · obtain ⟨v, hv⟩ := hok
        have AC := hide (fun W => atoi_ok _ htl v hv W)
        have NS := hide (numS_ok hv)
        obtain ⟨vb0, vb1⟩ := Lib.atoiAll_bounds hv
        generalize Lib.trimPrefix s snapW = x at *
        clear hv htl
        by_cases hp : 1 ≤ v ∧ v ≤ 1099511627776
        · obtain ⟨k, rfl⟩ : ∃ k : Nat, v = (k : Int) := ⟨v.toNat, by omega⟩
          rw [Int.toNat_natCast] at NS
          have PP := hide (fun W => isPos_yes (k : Int) W hp)
          by_cases hq : snNm k = s
          · have NS' := hide (show numS s = k by rw [unhide NS, if_pos ⟨hp.1, hp.2, hq⟩])
            have ES := hide (show str (snNm k) = str s by rw [hq])
            generalize hsj : str s = sj at *
            generalize str x = sx at *
            go_wp2_with fail
            go_at_call 120
            refine (unhide TP _).mono ?_
            rintro e V1 ⟨rfl, hV⟩
            subst hV
            go_wp2_with fail
            go_at_call 119
            refine (unhide AC _).mono ?_
            rintro e V2 ⟨rfl, v2⟩
            have F2 := hide ((unhide F).trans (v2.mono (unhide F).size))
            have O2 := hide ((unhide O).below v2)
            clear v2
            have U3 := hide ((Below.refl V2.heap.size V2).alloc (Nat.le_refl _) (.cells #[.string sj, .int .i64 (k : Int)] 111))
            have X3 := hide (heap_new V2 (.cells #[.string sj, .int .i64 (k : Int)] 111))
            have F3 := hide ((unhide F2).trans ((unhide U3).mono (unhide F2).size))
            have O3 := hide ((unhide O2).below (unhide U3))
            go_wp2_with fail
            generalize V2.alloc _ = W3 at *
            generalize V2.heap.size = E at *
            have d0 : W3.drew.cell? ⟨E, 0, none⟩ = some (.string sj) := box_cell (unhide X3) 0 _ rfl
            have d1 : W3.drew.cell? ⟨E, 1, none⟩ = some (.int .i64 (k : Int)) := box_cell (unhide X3) 1 _ rfl
            clear U3
            have FO := hide (show Calls Tryz.prog 71 #[.int .i64 (k : Int)] W3.drew fun e w' => e = .returned (.agg #[.string sj, .int .i64 (k : Int)]) ∧ Below W3.drew.heap.size W3.drew w' from by
              have := fileOf_calls k (by omega) W3.drew (((unhide HZ).later (unhide F3)).later ((Below.refl _ _).drew))
              rw [unhide ES] at this
              exact this)
            have hb1 : (sj.toList == sj.toList) = true := by simp
            have hb2 : ((k : Int) == (k : Int)) = true := by simp
            refine wp_region_held_drew (S := fun w' => w'.cell? ⟨E, 0, none⟩ = some (.string sj) ∧ w'.cell? ⟨E, 1, none⟩ = some (.int .i64 (k : Int))) (by kernel_rfl) ?_ (fun hHeld => ?_)
            · try dsimp only
              first | exact ⟨d0, d1⟩ | exact ⟨e0, e1⟩ | exact ⟨f0, f1⟩
            refine held_take 0 (oi := { dst := some 24, op := Op.move (Operand.tmp 7), type := 169, pos := "file.go:33", after := #[], guard := none }) (v := ?_) (by kernel_rfl) rfl (by rfl) (by kernel_rfl) (by kernel_rfl) (fun _ _ _ h => h) ?_ (by assumption) ?_
            rotate_left
            · (intro w hSw; (try dsimp only at hSw); go_simp; try with_reducible rfl)
            try simp only [Act.put, List.setIfInBounds_toArray, List.set_cons_zero, List.set_cons_succ]
            refine held_take 1 (oi := { dst := some 25, op := Op.binOp BinOp.eql 169 (Operand.tmp 24) (Operand.const Value.nilIface) 169, type := 4, pos := "file.go:33", after := #[{ on := 0, ground := Ground.data }], guard := none }) (v := ?_) (by kernel_rfl) rfl (by rfl) (by kernel_rfl) (by kernel_rfl) (fun _ _ _ h => h) ?_ (by assumption) ?_
            rotate_left
            · (intro w hSw; (try dsimp only at hSw); go_simp; try with_reducible rfl)
            try simp only [Act.put, List.setIfInBounds_toArray, List.set_cons_zero, List.set_cons_succ]
            refine held_take 2 (oi := { dst := some 26, op := Op.move (Operand.tmp 25), type := 4, pos := "file.go:33", after := #[{ on := 1, ground := Ground.data }], guard := none }) (v := ?_) (by kernel_rfl) rfl (by rfl) (by kernel_rfl) (by kernel_rfl) (fun _ _ _ h => h) ?_ (by assumption) ?_
            rotate_left
            · (intro w hSw; (try dsimp only at hSw); go_simp; try with_reducible rfl)
            try simp only [Act.put, List.setIfInBounds_toArray, List.set_cons_zero, List.set_cons_succ]
            refine held_take 3 (oi := { dst := some 27, op := Op.move (Operand.tmp 6), type := 3, pos := "file.go:33", after := #[{ on := 2, ground := Ground.guard }], guard := some (2, true) }) (v := ?_) (by kernel_rfl) rfl (by rfl) (by kernel_rfl) (by kernel_rfl) (fun _ _ _ h => h) ?_ (by assumption) ?_
            rotate_left
            · (intro w hSw; (try dsimp only at hSw); go_simp; try with_reducible rfl)
            try simp only [Act.put, List.setIfInBounds_toArray, List.set_cons_zero, List.set_cons_succ]
            refine held_one 4 (oi := { dst := some 28, op := Op.call { callee := Callee.value (Operand.func 50), args := #[Operand.tmp 27], argTypes := #[3] }, type := 4, pos := "file.go:33", after := #[{ on := 3, ground := Ground.data }, { on := 2, ground := Ground.chain }, { on := 2, ground := Ground.guard }], guard := some (2, true) }) (by kernel_rfl) rfl (fun K hK => ?_)
            go_simp
            first
              | (go_at_call 50
                 refine (unhide PP _).mono ?_
                 rintro e V4 ⟨rfl, rfl⟩
                 have e0 := d0
                 have e1 := d1)
              | (go_at_call 71
                 refine (unhide FO).mono ?_
                 rintro e V5 ⟨rfl, v5⟩
                 have f0 := cell_later v5 d0
                 have f1 := cell_later v5 d1
                 have U5 := hide (show Below W3.heap.size W3 V5 from ⟨v5.os, v5.tape, v5.output, v5.size, v5.block⟩)
                 clear v5)
            go_wp2_with fail
            refine hK.out _ _ ?_ (fun hHeld => ?_)
            · try dsimp only
              first | exact ⟨d0, d1⟩ | exact ⟨e0, e1⟩ | exact ⟨f0, f1⟩
            clear hK K
            try simp only [Act.put, List.setIfInBounds_toArray, List.set_cons_zero, List.set_cons_succ]
            refine held_take 5 (oi := { dst := some 29, op := Op.pick (Operand.tmp 26) (Operand.tmp 28) (Operand.const (Value.bool false)), type := 4, pos := "file.go:33", after := #[{ on := 2, ground := Ground.data }, { on := 4, ground := Ground.data }], guard := none }) (v := ?_) (by kernel_rfl) rfl (by rfl) (by kernel_rfl) (by kernel_rfl) (fun _ _ _ h => h) ?_ (by assumption) ?_
            rotate_left
            · (intro w hSw; (try dsimp only at hSw); go_simp; try with_reducible rfl)
            try simp only [Act.put, List.setIfInBounds_toArray, List.set_cons_zero, List.set_cons_succ]
            refine held_take 6 (oi := { dst := some 30, op := Op.move (Operand.tmp 29), type := 4, pos := "file.go:33", after := #[{ on := 5, ground := Ground.data }, { on := 4, ground := Ground.chain }], guard := none }) (v := ?_) (by kernel_rfl) rfl (by rfl) (by kernel_rfl) (by kernel_rfl) (fun _ _ _ h => h) ?_ (by assumption) ?_
            rotate_left
            · (intro w hSw; (try dsimp only at hSw); go_simp; try with_reducible rfl)
            try simp only [Act.put, List.setIfInBounds_toArray, List.set_cons_zero, List.set_cons_succ]
            refine held_take 7 (oi := { dst := some 31, op := Op.load 111 (Operand.tmp 8), type := 111, pos := "file.go:33", after := #[{ on := 6, ground := Ground.guard }], guard := some (6, true) }) (v := ?_) (by kernel_rfl) rfl (by rfl) (by kernel_rfl) (by kernel_rfl) (fun _ _ _ h => h) ?_ (by assumption) ?_
            rotate_left
            · (intro w hSw; (try dsimp only at hSw); go_simp; try with_reducible rfl)
            try simp only [Act.put, List.setIfInBounds_toArray, List.set_cons_zero, List.set_cons_succ]
            refine held_take 8 (oi := { dst := some 32, op := Op.move (Operand.tmp 6), type := 3, pos := "file.go:33", after := #[{ on := 6, ground := Ground.guard }], guard := some (6, true) }) (v := ?_) (by kernel_rfl) rfl (by rfl) (by kernel_rfl) (by kernel_rfl) (fun _ _ _ h => h) ?_ (by assumption) ?_
            rotate_left
            · (intro w hSw; (try dsimp only at hSw); go_simp; try with_reducible rfl)
            try simp only [Act.put, List.setIfInBounds_toArray, List.set_cons_zero, List.set_cons_succ]
            refine held_one 9 (oi := { dst := some 33, op := Op.call { callee := Callee.value (Operand.func 71), args := #[Operand.tmp 32], argTypes := #[3] }, type := 111, pos := "file.go:33", after := #[{ on := 8, ground := Ground.data }, { on := 6, ground := Ground.chain }, { on := 6, ground := Ground.guard }], guard := some (6, true) }) (by kernel_rfl) rfl (fun K hK => ?_)
            go_simp
            first
              | (go_at_call 50
                 refine (unhide PP _).mono ?_
                 rintro e V4 ⟨rfl, rfl⟩
                 have e0 := d0
                 have e1 := d1)
              | (go_at_call 71
                 refine (unhide FO).mono ?_
                 rintro e V5 ⟨rfl, v5⟩
                 have f0 := cell_later v5 d0
                 have f1 := cell_later v5 d1
                 have U5 := hide (show Below W3.heap.size W3 V5 from ⟨v5.os, v5.tape, v5.output, v5.size, v5.block⟩)
                 clear v5)
            go_wp2_with fail
            refine hK.out _ _ ?_ (fun hHeld => ?_)
            · try dsimp only
              first | exact ⟨d0, d1⟩ | exact ⟨e0, e1⟩ | exact ⟨f0, f1⟩
            clear hK K
            try simp only [Act.put, List.setIfInBounds_toArray, List.set_cons_zero, List.set_cons_succ]
            refine held_take 10 (oi := { dst := some 34, op := Op.binOp BinOp.eql 111 (Operand.tmp 31) (Operand.tmp 33) 111, type := 4, pos := "file.go:33", after := #[{ on := 7, ground := Ground.data }, { on := 9, ground := Ground.data }, { on := 6, ground := Ground.guard }], guard := some (6, true) }) (v := ?_) (by kernel_rfl) rfl (by rfl) (by kernel_rfl) (by kernel_rfl) (fun _ _ _ h => h) ?_ (by assumption) ?_
            rotate_left
            · (intro w hSw; (try dsimp only at hSw); go_simp; try with_reducible rfl)
            try simp only [Act.put, List.setIfInBounds_toArray, List.set_cons_zero, List.set_cons_succ]
            refine held_take 11 (oi := { dst := some 35, op := Op.pick (Operand.tmp 30) (Operand.tmp 34) (Operand.const (Value.bool false)), type := 4, pos := "file.go:33", after := #[{ on := 6, ground := Ground.data }, { on := 10, ground := Ground.data }], guard := none }) (v := ?_) (by kernel_rfl) rfl (by rfl) (by kernel_rfl) (by kernel_rfl) (fun _ _ _ h => h) ?_ (by assumption) ?_
            rotate_left
            · (intro w hSw; (try dsimp only at hSw); go_simp; try with_reducible rfl)
            try simp only [Act.put, List.setIfInBounds_toArray, List.set_cons_zero, List.set_cons_succ]
            refine wpAnyH_done (by kernel_rfl) ?_ _
            have O5 := hide ((unhide O3).below (unhide U5))
            have F5 := hide ((unhide F3).trans ((unhide U5).mono (unhide F3).size))
            have U6 := hide ((Below.refl V5.heap.size V5).alloc (Nat.le_refl _) (.cells #[.string sj, .int .i64 (k : Int)] 111))
            have X6 := hide (heap_new V5 (.cells #[.string sj, .int .i64 (k : Int)] 111))
            have O6 := hide ((unhide O5).below (unhide U6))
            have F6 := hide ((unhide F5).trans ((unhide U6).mono (unhide F5).size))
            have RX := hide (show (rowsF [((s, k) : Fl)]).toArray = #[.string sj, .int .i64 (k : Int)] by rw [← hsj]; rfl)
            have FS := hide (show filS (l.take (j + 1)) = filS (l.take j) ++ [(s, k)] by rw [unhide TK]; exact filS_yes (unhide NS') (by omega))
            clear hsj
            go_wp2_with (at_builtin; refine wpList_appendF rfl (.tmp 36) (.tmp 38) rfl w.heap.size sp2 m c2 (filS (l.take j)) rfl (unhide HM) (by exact unhide O6) V5.heap.size [(s, k)] 1 rfl rfl (by rw [unhide RX]; exact unhide X6) (by omega) (by exact (unhide F6).size) ?_; intro sp7 c7 W7 ho7 hb7)
            rw [← unhide FS] at ho7
            have F7 := hide ((unhide F6).trans hb7)
            have HM7 := hide (show (filS (l.take (j + 1))).length = m + 1 by rw [unhide FS, List.length_append, unhide HM]; rfl)
            have O7 := hide ho7
            clear ho7 hb7
            go_wp2
            exact ⟨⟨j + 1, m + 1, sp7, c7, by omega, by go_num, rfl, HM7, by omega, O7, F7⟩, by simp [intOf]; omega⟩
          · have FS := hide (show filS (l.take (j + 1)) = filS (l.take j) by rw [unhide TK]; exact filS_no (by rw [unhide NS, if_neg (fun q => hq q.2.2)]))
            have FOX := hide (fun W (u : Tz W) => fileOf_calls k (by omega) W u)
            have hb1 : ((str s).toList == (str (snNm k)).toList) = false := by rw [str_eqN]; exact decide_eq_false (fun e => hq e.symm)
            have hb2 : ((k : Int) == (k : Int)) = true := by simp
            generalize str (snNm k) = nk at *
            generalize str s = sj at *
            generalize str x = sx at *
            go_wp2_with fail
            go_at_call 120
            refine (unhide TP _).mono ?_
            rintro e V1 ⟨rfl, hV⟩
            subst hV
            go_wp2_with fail
            go_at_call 119
            refine (unhide AC _).mono ?_
            rintro e V2 ⟨rfl, v2⟩
            have F2 := hide ((unhide F).trans (v2.mono (unhide F).size))
            have O2 := hide ((unhide O).below v2)
            clear v2
            have U3 := hide ((Below.refl V2.heap.size V2).alloc (Nat.le_refl _) (.cells #[.string sj, .int .i64 (k : Int)] 111))
            have X3 := hide (heap_new V2 (.cells #[.string sj, .int .i64 (k : Int)] 111))
            have F3 := hide ((unhide F2).trans ((unhide U3).mono (unhide F2).size))
            have O3 := hide ((unhide O2).below (unhide U3))
            go_wp2_with fail
            generalize V2.alloc _ = W3 at *
            generalize V2.heap.size = E at *
            have d0 : W3.drew.cell? ⟨E, 0, none⟩ = some (.string sj) := box_cell (unhide X3) 0 _ rfl
            have d1 : W3.drew.cell? ⟨E, 1, none⟩ = some (.int .i64 (k : Int)) := box_cell (unhide X3) 1 _ rfl
            clear U3
            have FO := hide (unhide FOX W3.drew (((unhide HZ).later (unhide F3)).later ((Below.refl _ _).drew)))
            refine wp_region_held_drew (S := fun w' => w'.cell? ⟨E, 0, none⟩ = some (.string sj) ∧ w'.cell? ⟨E, 1, none⟩ = some (.int .i64 (k : Int))) (by kernel_rfl) ?_ (fun hHeld => ?_)
            · try dsimp only
              first | exact ⟨d0, d1⟩ | exact ⟨e0, e1⟩ | exact ⟨f0, f1⟩
            refine held_take 0 (oi := { dst := some 24, op := Op.move (Operand.tmp 7), type := 169, pos := "file.go:33", after := #[], guard := none }) (v := ?_) (by kernel_rfl) rfl (by rfl) (by kernel_rfl) (by kernel_rfl) (fun _ _ _ h => h) ?_ (by assumption) ?_
            rotate_left
            · (intro w hSw; (try dsimp only at hSw); go_simp; try with_reducible rfl)
            try simp only [Act.put, List.setIfInBounds_toArray, List.set_cons_zero, List.set_cons_succ]
            refine held_take 1 (oi := { dst := some 25, op := Op.binOp BinOp.eql 169 (Operand.tmp 24) (Operand.const Value.nilIface) 169, type := 4, pos := "file.go:33", after := #[{ on := 0, ground := Ground.data }], guard := none }) (v := ?_) (by kernel_rfl) rfl (by rfl) (by kernel_rfl) (by kernel_rfl) (fun _ _ _ h => h) ?_ (by assumption) ?_
            rotate_left
            · (intro w hSw; (try dsimp only at hSw); go_simp; try with_reducible rfl)
            try simp only [Act.put, List.setIfInBounds_toArray, List.set_cons_zero, List.set_cons_succ]
            refine held_take 2 (oi := { dst := some 26, op := Op.move (Operand.tmp 25), type := 4, pos := "file.go:33", after := #[{ on := 1, ground := Ground.data }], guard := none }) (v := ?_) (by kernel_rfl) rfl (by rfl) (by kernel_rfl) (by kernel_rfl) (fun _ _ _ h => h) ?_ (by assumption) ?_
            rotate_left
            · (intro w hSw; (try dsimp only at hSw); go_simp; try with_reducible rfl)
            try simp only [Act.put, List.setIfInBounds_toArray, List.set_cons_zero, List.set_cons_succ]
            refine held_take 3 (oi := { dst := some 27, op := Op.move (Operand.tmp 6), type := 3, pos := "file.go:33", after := #[{ on := 2, ground := Ground.guard }], guard := some (2, true) }) (v := ?_) (by kernel_rfl) rfl (by rfl) (by kernel_rfl) (by kernel_rfl) (fun _ _ _ h => h) ?_ (by assumption) ?_
            rotate_left
            · (intro w hSw; (try dsimp only at hSw); go_simp; try with_reducible rfl)
            try simp only [Act.put, List.setIfInBounds_toArray, List.set_cons_zero, List.set_cons_succ]
            refine held_one 4 (oi := { dst := some 28, op := Op.call { callee := Callee.value (Operand.func 50), args := #[Operand.tmp 27], argTypes := #[3] }, type := 4, pos := "file.go:33", after := #[{ on := 3, ground := Ground.data }, { on := 2, ground := Ground.chain }, { on := 2, ground := Ground.guard }], guard := some (2, true) }) (by kernel_rfl) rfl (fun K hK => ?_)
            go_simp
            first
              | (go_at_call 50
                 refine (unhide PP _).mono ?_
                 rintro e V4 ⟨rfl, rfl⟩
                 have e0 := d0
                 have e1 := d1)
              | (go_at_call 71
                 refine (unhide FO).mono ?_
                 rintro e V5 ⟨rfl, v5⟩
                 have f0 := cell_later v5 d0
                 have f1 := cell_later v5 d1
                 have U5 := hide (show Below W3.heap.size W3 V5 from ⟨v5.os, v5.tape, v5.output, v5.size, v5.block⟩)
                 clear v5)
            go_wp2_with fail
            refine hK.out _ _ ?_ (fun hHeld => ?_)
            · try dsimp only
              first | exact ⟨d0, d1⟩ | exact ⟨e0, e1⟩ | exact ⟨f0, f1⟩
            clear hK K
            try simp only [Act.put, List.setIfInBounds_toArray, List.set_cons_zero, List.set_cons_succ]
            refine held_take 5 (oi := { dst := some 29, op := Op.pick (Operand.tmp 26) (Operand.tmp 28) (Operand.const (Value.bool false)), type := 4, pos := "file.go:33", after := #[{ on := 2, ground := Ground.data }, { on := 4, ground := Ground.data }], guard := none }) (v := ?_) (by kernel_rfl) rfl (by rfl) (by kernel_rfl) (by kernel_rfl) (fun _ _ _ h => h) ?_ (by assumption) ?_
            rotate_left
            · (intro w hSw; (try dsimp only at hSw); go_simp; try with_reducible rfl)
            try simp only [Act.put, List.setIfInBounds_toArray, List.set_cons_zero, List.set_cons_succ]
            refine held_take 6 (oi := { dst := some 30, op := Op.move (Operand.tmp 29), type := 4, pos := "file.go:33", after := #[{ on := 5, ground := Ground.data }, { on := 4, ground := Ground.chain }], guard := none }) (v := ?_) (by kernel_rfl) rfl (by rfl) (by kernel_rfl) (by kernel_rfl) (fun _ _ _ h => h) ?_ (by assumption) ?_
            rotate_left
            · (intro w hSw; (try dsimp only at hSw); go_simp; try with_reducible rfl)
            try simp only [Act.put, List.setIfInBounds_toArray, List.set_cons_zero, List.set_cons_succ]
            refine held_take 7 (oi := { dst := some 31, op := Op.load 111 (Operand.tmp 8), type := 111, pos := "file.go:33", after := #[{ on := 6, ground := Ground.guard }], guard := some (6, true) }) (v := ?_) (by kernel_rfl) rfl (by rfl) (by kernel_rfl) (by kernel_rfl) (fun _ _ _ h => h) ?_ (by assumption) ?_
            rotate_left
            · (intro w hSw; (try dsimp only at hSw); go_simp; try with_reducible rfl)
            try simp only [Act.put, List.setIfInBounds_toArray, List.set_cons_zero, List.set_cons_succ]
            refine held_take 8 (oi := { dst := some 32, op := Op.move (Operand.tmp 6), type := 3, pos := "file.go:33", after := #[{ on := 6, ground := Ground.guard }], guard := some (6, true) }) (v := ?_) (by kernel_rfl) rfl (by rfl) (by kernel_rfl) (by kernel_rfl) (fun _ _ _ h => h) ?_ (by assumption) ?_
            rotate_left
            · (intro w hSw; (try dsimp only at hSw); go_simp; try with_reducible rfl)
            try simp only [Act.put, List.setIfInBounds_toArray, List.set_cons_zero, List.set_cons_succ]
            refine held_one 9 (oi := { dst := some 33, op := Op.call { callee := Callee.value (Operand.func 71), args := #[Operand.tmp 32], argTypes := #[3] }, type := 111, pos := "file.go:33", after := #[{ on := 8, ground := Ground.data }, { on := 6, ground := Ground.chain }, { on := 6, ground := Ground.guard }], guard := some (6, true) }) (by kernel_rfl) rfl (fun K hK => ?_)
            go_simp
            first
              | (go_at_call 50
                 refine (unhide PP _).mono ?_
                 rintro e V4 ⟨rfl, rfl⟩
                 have e0 := d0
                 have e1 := d1)
              | (go_at_call 71
                 refine (unhide FO).mono ?_
                 rintro e V5 ⟨rfl, v5⟩
                 have f0 := cell_later v5 d0
                 have f1 := cell_later v5 d1
                 have U5 := hide (show Below W3.heap.size W3 V5 from ⟨v5.os, v5.tape, v5.output, v5.size, v5.block⟩)
                 clear v5)
            go_wp2_with fail
            refine hK.out _ _ ?_ (fun hHeld => ?_)
            · try dsimp only
              first | exact ⟨d0, d1⟩ | exact ⟨e0, e1⟩ | exact ⟨f0, f1⟩
            clear hK K
            try simp only [Act.put, List.setIfInBounds_toArray, List.set_cons_zero, List.set_cons_succ]
            refine held_take 10 (oi := { dst := some 34, op := Op.binOp BinOp.eql 111 (Operand.tmp 31) (Operand.tmp 33) 111, type := 4, pos := "file.go:33", after := #[{ on := 7, ground := Ground.data }, { on := 9, ground := Ground.data }, { on := 6, ground := Ground.guard }], guard := some (6, true) }) (v := ?_) (by kernel_rfl) rfl (by rfl) (by kernel_rfl) (by kernel_rfl) (fun _ _ _ h => h) ?_ (by assumption) ?_
            rotate_left
            · (intro w hSw; (try dsimp only at hSw); go_simp; try with_reducible rfl)
            try simp only [Act.put, List.setIfInBounds_toArray, List.set_cons_zero, List.set_cons_succ]
            refine held_take 11 (oi := { dst := some 35, op := Op.pick (Operand.tmp 30) (Operand.tmp 34) (Operand.const (Value.bool false)), type := 4, pos := "file.go:33", after := #[{ on := 6, ground := Ground.data }, { on := 10, ground := Ground.data }], guard := none }) (v := ?_) (by kernel_rfl) rfl (by rfl) (by kernel_rfl) (by kernel_rfl) (fun _ _ _ h => h) ?_ (by assumption) ?_
            rotate_left
            · (intro w hSw; (try dsimp only at hSw); go_simp; try with_reducible rfl)
            try simp only [Act.put, List.setIfInBounds_toArray, List.set_cons_zero, List.set_cons_succ]
            refine wpAnyH_done (by kernel_rfl) ?_ _
            have HM7 := hide (show (filS (l.take (j + 1))).length = m by rw [unhide FS]; exact unhide HM)
            have O7 := hide (show OwnF w.heap.size V5 sp2 c2 (filS (l.take (j + 1))) by rw [unhide FS]; exact (unhide O3).below (unhide U5))
            have F7 := hide (show Below w.heap.size w V5 from (unhide F3).trans ((unhide U5).mono (unhide F3).size))
            go_wp2
            exact ⟨⟨j + 1, m, sp2, c2, by omega, by go_num, rfl, HM7, by omega, O7, F7⟩, by simp [intOf]; omega⟩
        · have PP := hide (fun W => isPos_no v W hp)
          have FS := hide (show filS (l.take (j + 1)) = filS (l.take j) by rw [unhide TK]; exact filS_no (by rw [unhide NS, if_neg (fun q => hp ⟨q.1, q.2.1⟩)]))
          generalize str s = sj at *
          generalize str x = sx at *
          go_wp2_with fail
          go_at_call 120
          refine (unhide TP _).mono ?_
          rintro e V1 ⟨rfl, hV⟩
          subst hV
          go_wp2_with fail
          go_at_call 119
          refine (unhide AC _).mono ?_
          rintro e V2 ⟨rfl, v2⟩
          have F2 := hide ((unhide F).trans (v2.mono (unhide F).size))
          have O2 := hide ((unhide O).below v2)
          clear v2
          have U3 := hide ((Below.refl V2.heap.size V2).alloc (Nat.le_refl _) (.cells #[.string sj, .int .i64 v] 111))
          have X3 := hide (heap_new V2 (.cells #[.string sj, .int .i64 v] 111))
          have F3 := hide ((unhide F2).trans ((unhide U3).mono (unhide F2).size))
          have O3 := hide ((unhide O2).below (unhide U3))
          go_wp2_with fail
          generalize V2.alloc _ = W3 at *
          generalize V2.heap.size = E at *
          have d0 : W3.drew.cell? ⟨E, 0, none⟩ = some (.string sj) := box_cell (unhide X3) 0 _ rfl
          have d1 : W3.drew.cell? ⟨E, 1, none⟩ = some (.int .i64 v) := box_cell (unhide X3) 1 _ rfl
          clear U3
          refine wp_region_held_drew (S := fun w' => w'.cell? ⟨E, 0, none⟩ = some (.string sj) ∧ w'.cell? ⟨E, 1, none⟩ = some (.int .i64 v)) (by kernel_rfl) ?_ (fun hHeld => ?_)
          · try dsimp only
            first | exact ⟨d0, d1⟩ | exact ⟨e0, e1⟩ | exact ⟨f0, f1⟩
          refine held_take 0 (oi := { dst := some 24, op := Op.move (Operand.tmp 7), type := 169, pos := "file.go:33", after := #[], guard := none }) (v := ?_) (by kernel_rfl) rfl (by rfl) (by kernel_rfl) (by kernel_rfl) (fun _ _ _ h => h) ?_ (by assumption) ?_
          rotate_left
          · (intro w hSw; (try dsimp only at hSw); go_simp; try with_reducible rfl)
          try simp only [Act.put, List.setIfInBounds_toArray, List.set_cons_zero, List.set_cons_succ]
          refine held_take 1 (oi := { dst := some 25, op := Op.binOp BinOp.eql 169 (Operand.tmp 24) (Operand.const Value.nilIface) 169, type := 4, pos := "file.go:33", after := #[{ on := 0, ground := Ground.data }], guard := none }) (v := ?_) (by kernel_rfl) rfl (by rfl) (by kernel_rfl) (by kernel_rfl) (fun _ _ _ h => h) ?_ (by assumption) ?_
          rotate_left
          · (intro w hSw; (try dsimp only at hSw); go_simp; try with_reducible rfl)
          try simp only [Act.put, List.setIfInBounds_toArray, List.set_cons_zero, List.set_cons_succ]
          refine held_take 2 (oi := { dst := some 26, op := Op.move (Operand.tmp 25), type := 4, pos := "file.go:33", after := #[{ on := 1, ground := Ground.data }], guard := none }) (v := ?_) (by kernel_rfl) rfl (by rfl) (by kernel_rfl) (by kernel_rfl) (fun _ _ _ h => h) ?_ (by assumption) ?_
          rotate_left
          · (intro w hSw; (try dsimp only at hSw); go_simp; try with_reducible rfl)
          try simp only [Act.put, List.setIfInBounds_toArray, List.set_cons_zero, List.set_cons_succ]
          refine held_take 3 (oi := { dst := some 27, op := Op.move (Operand.tmp 6), type := 3, pos := "file.go:33", after := #[{ on := 2, ground := Ground.guard }], guard := some (2, true) }) (v := ?_) (by kernel_rfl) rfl (by rfl) (by kernel_rfl) (by kernel_rfl) (fun _ _ _ h => h) ?_ (by assumption) ?_
          rotate_left
          · (intro w hSw; (try dsimp only at hSw); go_simp; try with_reducible rfl)
          try simp only [Act.put, List.setIfInBounds_toArray, List.set_cons_zero, List.set_cons_succ]
          refine held_one 4 (oi := { dst := some 28, op := Op.call { callee := Callee.value (Operand.func 50), args := #[Operand.tmp 27], argTypes := #[3] }, type := 4, pos := "file.go:33", after := #[{ on := 3, ground := Ground.data }, { on := 2, ground := Ground.chain }, { on := 2, ground := Ground.guard }], guard := some (2, true) }) (by kernel_rfl) rfl (fun K hK => ?_)
          go_simp
          first
            | (go_at_call 50
               refine (unhide PP _).mono ?_
               rintro e V4 ⟨rfl, rfl⟩
               have e0 := d0
               have e1 := d1)
          go_wp2_with fail
          refine hK.out _ _ ?_ (fun hHeld => ?_)
          · try dsimp only
            first | exact ⟨d0, d1⟩ | exact ⟨e0, e1⟩ | exact ⟨f0, f1⟩
          clear hK K
          try simp only [Act.put, List.setIfInBounds_toArray, List.set_cons_zero, List.set_cons_succ]
          refine held_take 5 (oi := { dst := some 29, op := Op.pick (Operand.tmp 26) (Operand.tmp 28) (Operand.const (Value.bool false)), type := 4, pos := "file.go:33", after := #[{ on := 2, ground := Ground.data }, { on := 4, ground := Ground.data }], guard := none }) (v := ?_) (by kernel_rfl) rfl (by rfl) (by kernel_rfl) (by kernel_rfl) (fun _ _ _ h => h) ?_ (by assumption) ?_
          rotate_left
          · (intro w hSw; (try dsimp only at hSw); go_simp; try with_reducible rfl)
          try simp only [Act.put, List.setIfInBounds_toArray, List.set_cons_zero, List.set_cons_succ]
          refine held_take 6 (oi := { dst := some 30, op := Op.move (Operand.tmp 29), type := 4, pos := "file.go:33", after := #[{ on := 5, ground := Ground.data }, { on := 4, ground := Ground.chain }], guard := none }) (v := ?_) (by kernel_rfl) rfl (by rfl) (by kernel_rfl) (by kernel_rfl) (fun _ _ _ h => h) ?_ (by assumption) ?_
          rotate_left
          · (intro w hSw; (try dsimp only at hSw); go_simp; try with_reducible rfl)
          try simp only [Act.put, List.setIfInBounds_toArray, List.set_cons_zero, List.set_cons_succ]
          refine held_skip 7 (oi := { dst := some 31, op := Op.load 111 (Operand.tmp 8), type := 111, pos := "file.go:33", after := #[{ on := 6, ground := Ground.guard }], guard := some (6, true) }) (by kernel_rfl) rfl (by rfl) (by kernel_rfl) (by kernel_rfl) (fun _ _ _ h => h) (by assumption) ?_
          try simp only [Act.put, List.setIfInBounds_toArray, List.set_cons_zero, List.set_cons_succ]
          refine held_skip 8 (oi := { dst := some 32, op := Op.move (Operand.tmp 6), type := 3, pos := "file.go:33", after := #[{ on := 6, ground := Ground.guard }], guard := some (6, true) }) (by kernel_rfl) rfl (by rfl) (by kernel_rfl) (by kernel_rfl) (fun _ _ _ h => h) (by assumption) ?_
          try simp only [Act.put, List.setIfInBounds_toArray, List.set_cons_zero, List.set_cons_succ]
          refine held_none 9 (oi := { dst := some 33, op := Op.call { callee := Callee.value (Operand.func 71), args := #[Operand.tmp 32], argTypes := #[3] }, type := 111, pos := "file.go:33", after := #[{ on := 8, ground := Ground.data }, { on := 6, ground := Ground.chain }, { on := 6, ground := Ground.guard }], guard := some (6, true) }) (by kernel_rfl) rfl (by rfl) (by assumption) ?_
          try simp only [Act.put, List.setIfInBounds_toArray, List.set_cons_zero, List.set_cons_succ]
          refine held_skip 10 (oi := { dst := some 34, op := Op.binOp BinOp.eql 111 (Operand.tmp 31) (Operand.tmp 33) 111, type := 4, pos := "file.go:33", after := #[{ on := 7, ground := Ground.data }, { on := 9, ground := Ground.data }, { on := 6, ground := Ground.guard }], guard := some (6, true) }) (by kernel_rfl) rfl (by rfl) (by kernel_rfl) (by kernel_rfl) (fun _ _ _ h => h) (by assumption) ?_
          try simp only [Act.put, List.setIfInBounds_toArray, List.set_cons_zero, List.set_cons_succ]
          refine held_take 11 (oi := { dst := some 35, op := Op.pick (Operand.tmp 30) (Operand.tmp 34) (Operand.const (Value.bool false)), type := 4, pos := "file.go:33", after := #[{ on := 6, ground := Ground.data }, { on := 10, ground := Ground.data }], guard := none }) (v := ?_) (by kernel_rfl) rfl (by rfl) (by kernel_rfl) (by kernel_rfl) (fun _ _ _ h => h) ?_ (by assumption) ?_
          rotate_left
          · (intro w hSw; (try dsimp only at hSw); go_simp; try with_reducible rfl)
          try simp only [Act.put, List.setIfInBounds_toArray, List.set_cons_zero, List.set_cons_succ]
          refine wpAnyH_done (by kernel_rfl) ?_ _
          have HM7 := hide (show (filS (l.take (j + 1))).length = m by rw [unhide FS]; exact unhide HM)
          have O7 := hide (show OwnF w.heap.size W3.drew sp2 c2 (filS (l.take (j + 1))) by rw [unhide FS]; exact (unhide O3).below ((Below.refl _ _).drew))
          have F7 := hide (show Below w.heap.size w W3.drew from (unhide F3).trans ((Below.refl _ _).drew))
          go_wp2
          exact ⟨⟨j + 1, m, sp2, c2, by omega, by go_num, rfl, HM7, by omega, O7, F7⟩, by simp [intOf]; omega⟩
      · have AC := hide (fun W (u : Tz W) => atoi_no _ htl (fun v hv => hok ⟨v, hv⟩) W u)
        have FS := hide (show filS (l.take (j + 1)) = filS (l.take j) by rw [unhide TK]; exact filS_no (numS_bad (fun v hv => hok ⟨v, hv⟩)))
        generalize Lib.trimPrefix s snapW = x at *
        clear hok htl
        generalize str s = sj at *
        generalize str x = sx at *
        go_wp2_with fail
        go_at_call 120
        refine (unhide TP _).mono ?_
        rintro e V1 ⟨rfl, hV⟩
        subst hV
        go_wp2_with fail
        go_at_call 119
        refine (unhide AC _ ((unhide HZ).later (unhide F))).mono ?_
        rintro e V2 ⟨v, tt, aa, rfl, v2⟩
        have F2 := hide ((unhide F).trans (v2.mono (unhide F).size))
        have O2 := hide ((unhide O).below v2)
        clear v2
        have U3 := hide ((Below.refl V2.heap.size V2).alloc (Nat.le_refl _) (.cells #[.string sj, .int .i64 v] 111))
        have X3 := hide (heap_new V2 (.cells #[.string sj, .int .i64 v] 111))
        have F3 := hide ((unhide F2).trans ((unhide U3).mono (unhide F2).size))
        have O3 := hide ((unhide O2).below (unhide U3))
        go_wp2_with fail
        generalize V2.alloc _ = W3 at *
        generalize V2.heap.size = E at *
        have d0 : W3.drew.cell? ⟨E, 0, none⟩ = some (.string sj) := box_cell (unhide X3) 0 _ rfl
        have d1 : W3.drew.cell? ⟨E, 1, none⟩ = some (.int .i64 v) := box_cell (unhide X3) 1 _ rfl
        clear U3
        refine wp_region_held_drew (S := fun w' => w'.cell? ⟨E, 0, none⟩ = some (.string sj) ∧ w'.cell? ⟨E, 1, none⟩ = some (.int .i64 v)) (by kernel_rfl) ?_ (fun hHeld => ?_)
        · try dsimp only
          first | exact ⟨d0, d1⟩ | exact ⟨e0, e1⟩ | exact ⟨f0, f1⟩
        refine held_take 0 (oi := { dst := some 24, op := Op.move (Operand.tmp 7), type := 169, pos := "file.go:33", after := #[], guard := none }) (v := ?_) (by kernel_rfl) rfl (by rfl) (by kernel_rfl) (by kernel_rfl) (fun _ _ _ h => h) ?_ (by assumption) ?_
        rotate_left
        · (intro w hSw; (try dsimp only at hSw); go_simp; try with_reducible rfl)
        try simp only [Act.put, List.setIfInBounds_toArray, List.set_cons_zero, List.set_cons_succ]
        refine held_take 1 (oi := { dst := some 25, op := Op.binOp BinOp.eql 169 (Operand.tmp 24) (Operand.const Value.nilIface) 169, type := 4, pos := "file.go:33", after := #[{ on := 0, ground := Ground.data }], guard := none }) (v := ?_) (by kernel_rfl) rfl (by rfl) (by kernel_rfl) (by kernel_rfl) (fun _ _ _ h => h) ?_ (by assumption) ?_
        rotate_left
        · (intro w hSw; (try dsimp only at hSw); go_simp; try with_reducible rfl)
        try simp only [Act.put, List.setIfInBounds_toArray, List.set_cons_zero, List.set_cons_succ]
        refine held_take 2 (oi := { dst := some 26, op := Op.move (Operand.tmp 25), type := 4, pos := "file.go:33", after := #[{ on := 1, ground := Ground.data }], guard := none }) (v := ?_) (by kernel_rfl) rfl (by rfl) (by kernel_rfl) (by kernel_rfl) (fun _ _ _ h => h) ?_ (by assumption) ?_
        rotate_left
        · (intro w hSw; (try dsimp only at hSw); go_simp; try with_reducible rfl)
        try simp only [Act.put, List.setIfInBounds_toArray, List.set_cons_zero, List.set_cons_succ]
        refine held_skip 3 (oi := { dst := some 27, op := Op.move (Operand.tmp 6), type := 3, pos := "file.go:33", after := #[{ on := 2, ground := Ground.guard }], guard := some (2, true) }) (by kernel_rfl) rfl (by rfl) (by kernel_rfl) (by kernel_rfl) (fun _ _ _ h => h) (by assumption) ?_
        try simp only [Act.put, List.setIfInBounds_toArray, List.set_cons_zero, List.set_cons_succ]
        refine held_none 4 (oi := { dst := some 28, op := Op.call { callee := Callee.value (Operand.func 50), args := #[Operand.tmp 27], argTypes := #[3] }, type := 4, pos := "file.go:33", after := #[{ on := 3, ground := Ground.data }, { on := 2, ground := Ground.chain }, { on := 2, ground := Ground.guard }], guard := some (2, true) }) (by kernel_rfl) rfl (by rfl) (by assumption) ?_
        try simp only [Act.put, List.setIfInBounds_toArray, List.set_cons_zero, List.set_cons_succ]
        refine held_take 5 (oi := { dst := some 29, op := Op.pick (Operand.tmp 26) (Operand.tmp 28) (Operand.const (Value.bool false)), type := 4, pos := "file.go:33", after := #[{ on := 2, ground := Ground.data }, { on := 4, ground := Ground.data }], guard := none }) (v := ?_) (by kernel_rfl) rfl (by rfl) (by kernel_rfl) (by kernel_rfl) (fun _ _ _ h => h) ?_ (by assumption) ?_
        rotate_left
        · (intro w hSw; (try dsimp only at hSw); go_simp; try with_reducible rfl)
        try simp only [Act.put, List.setIfInBounds_toArray, List.set_cons_zero, List.set_cons_succ]
        refine held_take 6 (oi := { dst := some 30, op := Op.move (Operand.tmp 29), type := 4, pos := "file.go:33", after := #[{ on := 5, ground := Ground.data }, { on := 4, ground := Ground.chain }], guard := none }) (v := ?_) (by kernel_rfl) rfl (by rfl) (by kernel_rfl) (by kernel_rfl) (fun _ _ _ h => h) ?_ (by assumption) ?_
        rotate_left
        · (intro w hSw; (try dsimp only at hSw); go_simp; try with_reducible rfl)
        try simp only [Act.put, List.setIfInBounds_toArray, List.set_cons_zero, List.set_cons_succ]
        refine held_skip 7 (oi := { dst := some 31, op := Op.load 111 (Operand.tmp 8), type := 111, pos := "file.go:33", after := #[{ on := 6, ground := Ground.guard }], guard := some (6, true) }) (by kernel_rfl) rfl (by rfl) (by kernel_rfl) (by kernel_rfl) (fun _ _ _ h => h) (by assumption) ?_
        try simp only [Act.put, List.setIfInBounds_toArray, List.set_cons_zero, List.set_cons_succ]
        refine held_skip 8 (oi := { dst := some 32, op := Op.move (Operand.tmp 6), type := 3, pos := "file.go:33", after := #[{ on := 6, ground := Ground.guard }], guard := some (6, true) }) (by kernel_rfl) rfl (by rfl) (by kernel_rfl) (by kernel_rfl) (fun _ _ _ h => h) (by assumption) ?_
        try simp only [Act.put, List.setIfInBounds_toArray, List.set_cons_zero, List.set_cons_succ]
        refine held_none 9 (oi := { dst := some 33, op := Op.call { callee := Callee.value (Operand.func 71), args := #[Operand.tmp 32], argTypes := #[3] }, type := 111, pos := "file.go:33", after := #[{ on := 8, ground := Ground.data }, { on := 6, ground := Ground.chain }, { on := 6, ground := Ground.guard }], guard := some (6, true) }) (by kernel_rfl) rfl (by rfl) (by assumption) ?_
        try simp only [Act.put, List.setIfInBounds_toArray, List.set_cons_zero, List.set_cons_succ]
        refine held_skip 10 (oi := { dst := some 34, op := Op.binOp BinOp.eql 111 (Operand.tmp 31) (Operand.tmp 33) 111, type := 4, pos := "file.go:33", after := #[{ on := 7, ground := Ground.data }, { on := 9, ground := Ground.data }, { on := 6, ground := Ground.guard }], guard := some (6, true) }) (by kernel_rfl) rfl (by rfl) (by kernel_rfl) (by kernel_rfl) (fun _ _ _ h => h) (by assumption) ?_
        try simp only [Act.put, List.setIfInBounds_toArray, List.set_cons_zero, List.set_cons_succ]
        refine held_take 11 (oi := { dst := some 35, op := Op.pick (Operand.tmp 30) (Operand.tmp 34) (Operand.const (Value.bool false)), type := 4, pos := "file.go:33", after := #[{ on := 6, ground := Ground.data }, { on := 10, ground := Ground.data }], guard := none }) (v := ?_) (by kernel_rfl) rfl (by rfl) (by kernel_rfl) (by kernel_rfl) (fun _ _ _ h => h) ?_ (by assumption) ?_
        rotate_left
        · (intro w hSw; (try dsimp only at hSw); go_simp; try with_reducible rfl)
        try simp only [Act.put, List.setIfInBounds_toArray, List.set_cons_zero, List.set_cons_succ]
        refine wpAnyH_done (by kernel_rfl) ?_ _
        have HM7 := hide (show (filS (l.take (j + 1))).length = m by rw [unhide FS]; exact unhide HM)
        have O7 := hide (show OwnF w.heap.size W3.drew sp2 c2 (filS (l.take (j + 1))) by rw [unhide FS]; exact (unhide O3).below ((Below.refl _ _).drew))
        have F7 := hide (show Below w.heap.size w W3.drew from (unhide F3).trans ((Below.refl _ _).drew))
        go_wp2
        exact ⟨⟨j + 1, m, sp2, c2, by omega, by go_num, rfl, HM7, by omega, O7, F7⟩, by simp [intOf]; omega⟩
    · obtain rfl : j = n := by omega
      have y1 : ¬ (j : Int) < (j : Int) := by omega
      have TL := hide (show l.take j = l from List.take_of_length_le (by rw [unhide HN]; exact Nat.le_refl _))
      rw [unhide TL] at HM O
      have SC := hide (unhide SFH sp2 c2 wr (unhide O) (unhide F))
      rw [unhide HM] at SC
      clear SFH
      go_wp2_with fail
      go_at_call 121
      refine (unhide SC).mono ?_
      rintro e V1 ⟨rfl, hQ⟩
      have FQ := hide hQ
      clear hQ SC
      go_wp2
      exact unhide FQ
end Go.Proofs.YtagncghpfdjkmaaGreatDoor
