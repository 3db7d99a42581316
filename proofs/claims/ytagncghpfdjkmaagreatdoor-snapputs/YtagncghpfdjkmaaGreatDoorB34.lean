/- Snapshots: the document's Put. -/
import Derived.Test.YtagncghpfdjkmaaGreatDoorB18
import Derived.Test.YtagncghpfdjkmaaGreatDoorB13
import Derived.Test.YtagncghpfdjkmaaGreatDoorB32
import Derived.Test.YtagncghpfdjkmaaGreatDoorB27
import Derived.Test.YtagncghpfdjkmaaGreatDoorB28
import Derived.Test.YtagncghpfdjkmaaGreatDoorB33
import Derived.Test.YtagncghpfdjkmaaGreatDoorB21
section
namespace Go.Proofs.YtagncghpfdjkmaaGreatDoor
open Go.ChangeShapes Go.WideShapes Go.ChangeAt Go.RowKit
set_option linter.unusedVariables false

section
variable {w : World} {sp : Option Addr} {c : Nat} {b : List Nat}
set_option maxHeartbeats 2000000 in
theorem sradd_calls (base n0 k : Nat) (hn0 : b.length = n0) (hown : OwnB base w sp c b) (hb : b.length ≤ 100000) (hk : k ≤ 1099511627776) (hbase : base ≤ w.heap.size) :
    Calls Tryz.prog 56 #[.slice sp n0 c, .int .i64 (k : Int)] w fun e w' => ∃ sp' n' c', e = .returned (.slice sp' n' c') ∧ Hid ((b ++ numB k).length = n') ∧ OwnB base w' sp' c' (b ++ numB k) ∧ Below base w w' := by
  have H := hide hown
  have N0 := hide hn0
  have HB := hide hb
  have SX := hide (numB_six k hk)
  clear hown hn0 hb
  go_enter Tryz.func56, Tryz.ntmps56
  go_wp2_with fail
  refine (refNumber_yes k w hk).mono ?_
  rintro e w1 ⟨xp, m, xc, rfl, hm, hx, b1⟩
  have O1 := hide ((unhide H).later b1)
  have X1 := hide hx
  have B1 := hide b1
  have HM := hide (unhide hm)
  clear hx b1
  go_wp2_with (at_builtin; refine wpList_append8 rfl (.tmp 12) (.tmp 13) rfl base sp n0 c b rfl (unhide N0) (by exact unhide O1) xp m xc rfl (numB k) (unhide HM) (by exact (unhide X1).bytes) (by exact (unhide X1).nil0) (by have := unhide HB; have h2 := unhide HM; have h3 := unhide SX; omega) (by exact Nat.le_trans hbase (unhide B1).size) ?_; intro sp' n' c' w' hn' ho' hg' hb')
  go_ret
  exact ⟨sp', n', c', rfl, hn', ho', ((unhide B1).mono hbase).trans hb'⟩
end
/-- How the document's Put ends. -/
def PutR (s : Sn) (w : World) (e : Ending) (w' : World) : Prop := Below w.heap.size w w' ∧ ((snE s ≠ 0 ∧ e = .returned (.tuple #[.slice none 0 0, .int .i64 (snE s : Int)])) ∨
  (snE s = 0 ∧ ∃ sp n c, e = .returned (.tuple #[.slice sp n c, .int .i64 0]) ∧ (snB s).length = n ∧ OwnB w.heap.size w' sp c (snB s)))
set_option maxRecDepth 20000 in
set_option maxHeartbeats 8000000 in
theorem rputS_calls (s : Sn) (h : SnH) (w : World) (hs : SnAt w s h) : Calls Tryz.prog 16 #[.agg (snRow s h)] w (PutR s w) := by
  have HS := hide hs
  have FB := hide (show ∀ (x : Nat) W, snE s = x → x ≠ 0 → Below w.heap.size w W → PutR s w (.returned (.tuple #[.slice none 0 0, .int .i64 (x : Int)])) W from fun x W h1 h2 u => ⟨u, .inl ⟨by rw [h1]; exact h2, by rw [h1]⟩⟩)
  have PC := hide (fun W (u : Below w.heap.size w W) => rputM_calls (w := W) (vc := h.vc) (lc := h.lc) (hs.v.later u) (hs.l.later u) s.v.length s.l.length rfl rfl hs.vn hs.ln)
  unfold snRow
  have bi := hs.bi
  have bt := hs.bt
  have hdn := hs.dn
  have hdm := hs.dm
  have hvn := hs.vn
  have hln := hs.ln
  simp only [maxLen] at hdm hvn hln
  have HI := hide (show snE s = (if (1 ≤ s.i ∧ s.i ≤ 1099511627776) ∧ (1 ≤ s.t ∧ s.t ≤ 1099511627776) ∧ rightM s.v s.l = true then (if 16384 < s.d.length then 6 else 0) else 2) from rfl)
  have SI := hide (show snI s = inB s.i.toNat s.t.toNat (listB s.v ++ listB s.l) s.d from rfl)
  clear hs
  generalize hvl : s.v.length = vn at *
  generalize hll : s.l.length = ln at *
  generalize hdl : s.d.length = dn at *
  generalize hi0 : s.i = i at *
  generalize ht0 : s.t = t at *
  have E0 := hide hi0
  have E1 := hide ht0
  have VL := hide hvl
  have LL := hide hll
  have DL := hide hdl
  clear hi0 ht0 hvl hll hdl
  have X1 := hide (heap_new w (.cells #[.int .i64 i, .int .i64 t, .slice h.va vn h.vc, .slice h.la ln h.lc, .slice h.dp dn h.dc] 29))
  have u1 := hide (show Below w.heap.size w (w.alloc (.cells #[.int .i64 i, .int .i64 t, .slice h.va vn h.vc, .slice h.la ln h.lc, .slice h.dp dn h.dc] 29)) from (Below.refl _ _).alloc (Nat.le_refl _) _)
  have c2 := box_cell (unhide X1) 2 _ rfl
  have c3 := box_cell (unhide X1) 3 _ rfl
  go_enter Tryz.func16, Tryz.ntmps16
  go_wp2_with fail
  generalize w.alloc _ = W1 at *
  generalize hD : w.heap.size = D at *
  go_at_call 55
  refine (unhide PC _ (unhide u1)).mono ?_
  rintro e V2 ⟨mp, mn, mc, rfl, hmn, hmo, v2⟩
  have X2 := hide (later_block v2 (unhide X1))
  have U2 := hide ((unhide u1).trans (v2.mono (by rw [← hD]; exact (unhide u1).size)))
  have U2' := hide (show Below w.heap.size w V2 from by rw [hD]; exact unhide U2)
  have MO := hide hmo
  have MN := hide (unhide hmn)
  clear v2 hmo hmn c2 c3 X1
  have c0 := box_cell (unhide X2) 0 _ rfl
  have c1 := box_cell (unhide X2) 1 _ rfl
  by_cases a1 : i < 1
  · have FE := hide (unhide FB 2 V2 (by rw [unhide HI, if_neg (fun q => by omega)]) (by omega) (unhide U2))
    clear FB HI PC
    go_wp2
    go_ret2
    exact unhide FE
  by_cases a2 : 1099511627776 < i
  · have FE := hide (unhide FB 2 V2 (by rw [unhide HI, if_neg (fun q => by omega)]) (by omega) (unhide U2))
    clear FB HI PC
    go_wp2
    go_ret2
    exact unhide FE
  by_cases a3 : t < 1
  · have FE := hide (unhide FB 2 V2 (by rw [unhide HI, if_neg (fun q => by omega)]) (by omega) (unhide U2))
    clear FB HI PC
    go_wp2
    go_ret2
    exact unhide FE
  by_cases a4 : 1099511627776 < t
  · have FE := hide (unhide FB 2 V2 (by rw [unhide HI, if_neg (fun q => by omega)]) (by omega) (unhide U2))
    clear FB HI PC
    go_wp2
    go_ret2
    exact unhide FE
  cases hr : rightM s.v s.l with
  | false =>
    have PE := hide (show putE s.v s.l = 2 by rw [putE, hr]; rfl)
    rw [unhide PE]
    have FE := hide (unhide FB 2 V2 (by rw [unhide HI, if_neg (by rw [hr]; simp)]) (by omega) (unhide U2))
    clear FB HI PC
    go_wp2
    go_ret2
    exact unhide FE
  | true =>
    have PE := hide (show putE s.v s.l = 0 by rw [putE, hr]; rfl)
    have PB := hide (show putB s.v s.l = listB s.v ++ listB s.l by rw [putB, hr]; rfl)
    rw [unhide PE]
    rw [unhide PB] at MO MN
    have c4 := box_cell (unhide X2) 4 _ rfl
    have h1 : 1 ≤ i ∧ i ≤ 1099511627776 := by omega
    have h2 : 1 ≤ t ∧ t ≤ 1099511627776 := by omega
    by_cases h3 : 16384 < dn
    · have y3 : (16384 : Int) < (dn : Int) := by omega
      have FE := hide (unhide FB 6 V2 (by rw [unhide HI, if_pos ⟨h1, h2, hr⟩, if_pos h3]) (by omega) (unhide U2))
      clear FB HI PC
      go_wp2
      go_ret2
      exact unhide FE
    · have y3 : ¬ (16384 : Int) < (dn : Int) := by omega
      have Z0 := hide (show snE s = 0 by rw [unhide HI, if_pos ⟨h1, h2, hr⟩, if_neg h3])
      have ML := hide (mem_len hr)
      obtain ⟨i, rfl⟩ : ∃ k : Nat, i = (k : Int) := ⟨i.toNat, by omega⟩
      obtain ⟨t, rfl⟩ : ∃ k : Nat, t = (k : Int) := ⟨t.toNat, by omega⟩
      have hi := h1.2
      have ht := h2.2
      rw [Int.toNat_natCast, Int.toNat_natCast] at SI
      have M20 := hide (show mn ≤ 20 by rw [← unhide MN]; exact unhide ML)
      have KY := hide (show ∀ W, Below V2.heap.size V2 W → W.heap[D]? = some (.cells #[.int .i64 (i : Int), .int .i64 (t : Int), .slice h.va vn h.vc, .slice h.la ln h.lc, .slice h.dp dn h.dc] 29 (0, 0)) from fun W u => later_block u (unhide X2))
      have F := hide (show Below V2.heap.size V2 V2.drew from (Below.refl _ _).drew)
      have SL := hide (snI_len (unhide Z0))
      clear FB PC
      go_wp2_with fail
      clear c4
      refine wp_region_held_drew (S := fun w' => w'.cell? ⟨D, 0, none⟩ = some (.int .i64 (i : Int)) ∧ w'.cell? ⟨D, 1, none⟩ = some (.int .i64 (t : Int))) (by kernel_rfl) ?_ (fun hHeld => ?_)
      · try dsimp only
        exact ⟨box_cell (unhide KY _ (unhide F)) 0 _ rfl, box_cell (unhide KY _ (unhide F)) 1 _ rfl⟩
      refine held_take 1 (oi := { dst := some 44, op := Op.fieldAddr 29 (Operand.tmp 1) 0, type := 0, pos := "ref.go:30", after := #[], guard := none }) (v := ?_) (by kernel_rfl) rfl (by rfl) (by kernel_rfl) (by kernel_rfl) (fun _ _ _ h => h) ?_ (by assumption) ?_
      rotate_left
      · (intro w hSw; (try dsimp only at hSw); go_simp; try with_reducible rfl)
      try simp only [Act.put, List.setIfInBounds_toArray, List.set_cons_zero, List.set_cons_succ]
      refine held_take 2 (oi := { dst := some 45, op := Op.fieldAddr 23 (Operand.tmp 44) 0, type := 0, pos := "ref.go:30", after := #[{ on := 1, ground := Ground.data }], guard := none }) (v := ?_) (by kernel_rfl) rfl (by rfl) (by kernel_rfl) (by kernel_rfl) (fun _ _ _ h => h) ?_ (by assumption) ?_
      rotate_left
      · (intro w hSw; (try dsimp only at hSw); go_simp; try with_reducible rfl)
      try simp only [Act.put, List.setIfInBounds_toArray, List.set_cons_zero, List.set_cons_succ]
      refine held_take 3 (oi := { dst := some 46, op := Op.load 3 (Operand.tmp 45), type := 3, pos := "ref.go:30", after := #[{ on := 2, ground := Ground.data }], guard := none }) (v := ?_) (by kernel_rfl) rfl (by rfl) (by kernel_rfl) (by kernel_rfl) (fun _ _ _ h => h) ?_ (by assumption) ?_
      rotate_left
      · (intro w hSw; (try dsimp only at hSw); go_simp; try with_reducible rfl)
      try simp only [Act.put, List.setIfInBounds_toArray, List.set_cons_zero, List.set_cons_succ]
      refine held_take 5 (oi := { dst := some 48, op := Op.fieldAddr 29 (Operand.tmp 1) 0, type := 0, pos := "ref.go:30", after := #[], guard := none }) (v := ?_) (by kernel_rfl) rfl (by rfl) (by kernel_rfl) (by kernel_rfl) (fun _ _ _ h => h) ?_ (by assumption) ?_
      rotate_left
      · (intro w hSw; (try dsimp only at hSw); go_simp; try with_reducible rfl)
      try simp only [Act.put, List.setIfInBounds_toArray, List.set_cons_zero, List.set_cons_succ]
      refine held_take 6 (oi := { dst := some 49, op := Op.fieldAddr 23 (Operand.tmp 48) 1, type := 0, pos := "ref.go:30", after := #[{ on := 5, ground := Ground.data }], guard := none }) (v := ?_) (by kernel_rfl) rfl (by rfl) (by kernel_rfl) (by kernel_rfl) (fun _ _ _ h => h) ?_ (by assumption) ?_
      rotate_left
      · (intro w hSw; (try dsimp only at hSw); go_simp; try with_reducible rfl)
      try simp only [Act.put, List.setIfInBounds_toArray, List.set_cons_zero, List.set_cons_succ]
      refine held_take 7 (oi := { dst := some 50, op := Op.load 3 (Operand.tmp 49), type := 3, pos := "ref.go:30", after := #[{ on := 6, ground := Ground.data }], guard := none }) (v := ?_) (by kernel_rfl) rfl (by rfl) (by kernel_rfl) (by kernel_rfl) (fun _ _ _ h => h) ?_ (by assumption) ?_
      rotate_left
      · (intro w hSw; (try dsimp only at hSw); go_simp; try with_reducible rfl)
      try simp only [Act.put, List.setIfInBounds_toArray, List.set_cons_zero, List.set_cons_succ]
      refine wpAnyH_ready (rs := [0]) (by kernel_rfl) (by simp) ?_
      refine AllReadyH.cons (o := { dst := some 43, op := Op.buildSlice 27 0 #[], type := 27, pos := "ref.go:30", after := #[], guard := none }) rfl (fun K hK => ?_) ?_
      · refine step_build8 rfl rfl V2.heap.size (unhide F).size ?_
        intro sp2 W2 ho2 hb2
        have F := hide ((unhide F).trans (hb2.mono (unhide F).size))
        have O2 := hide ho2
        clear ho2 hb2
        refine hK.out _ _ ?_ (fun hHeld => ?_)
        · try dsimp only
          exact ⟨box_cell (unhide KY _ (unhide F)) 0 _ rfl, box_cell (unhide KY _ (unhide F)) 1 _ rfl⟩
        clear hK K
        try simp only [Act.put, List.setIfInBounds_toArray, List.set_cons_zero, List.set_cons_succ]
        refine wpAnyH_ready (rs := [4]) (by kernel_rfl) (by simp) ?_
        refine AllReadyH.cons (o := { dst := some 47, op := Op.call { callee := Callee.value (Operand.func 56), args := #[Operand.tmp 43, Operand.tmp 46], argTypes := #[27, 3] }, type := 27, pos := "ref.go:30", after := #[{ on := 0, ground := Ground.data }, { on := 3, ground := Ground.data }], guard := none }) rfl (fun K hK => ?_) ?_
        · go_simp
          refine (sradd_calls V2.heap.size 0 i rfl (unhide O2) (by simp) (by omega) (unhide F).size).mono ?_
          rintro e W3 ⟨sp3, n3, k3, rfl, hn3, ho3, hb3⟩
          have F := hide ((unhide F).trans hb3)
          have O3 := hide ho3
          have N3 := hide (unhide hn3)
          clear ho3 hn3 hb3
          go_wp2_with fail
          refine hK.out _ _ ?_ (fun hHeld => ?_)
          · try dsimp only
            exact ⟨box_cell (unhide KY _ (unhide F)) 0 _ rfl, box_cell (unhide KY _ (unhide F)) 1 _ rfl⟩
          clear hK K
          try simp only [Act.put, List.setIfInBounds_toArray, List.set_cons_zero, List.set_cons_succ]
          refine wpAnyH_ready (rs := [8]) (by kernel_rfl) (by simp) ?_
          refine AllReadyH.cons (o := { dst := some 51, op := Op.call { callee := Callee.value (Operand.func 56), args := #[Operand.tmp 47, Operand.tmp 50], argTypes := #[27, 3] }, type := 27, pos := "ref.go:30", after := #[{ on := 4, ground := Ground.data }, { on := 7, ground := Ground.data }, { on := 4, ground := Ground.chain }], guard := none }) rfl (fun K hK => ?_) ?_
          · go_simp
            refine (sradd_calls V2.heap.size n3 t (unhide N3) (unhide O3) (by have := numB_six i (by omega); simp; omega) (by omega) (unhide F).size).mono ?_
            rintro e V4 ⟨sp4, n4, c4, rfl, hn4, ho4, hb4⟩
            have F := hide ((unhide F).trans hb4)
            have O4 := hide ho4
            have N4 := hide (unhide hn4)
            clear ho4 hn4 hb4
            go_wp2_with fail
            refine hK.out _ _ ?_ (fun hHeld => ?_)
            · try dsimp only
              exact ⟨box_cell (unhide KY _ (unhide F)) 0 _ rfl, box_cell (unhide KY _ (unhide F)) 1 _ rfl⟩
            clear hK K
            try simp only [Act.put, List.setIfInBounds_toArray, List.set_cons_zero, List.set_cons_succ]
            refine held_take 9 (oi := { dst := some 6, op := Op.assign (Operand.tmp 51), type := 27, pos := "ref.go:30", after := #[{ on := 8, ground := Ground.data }, { on := 8, ground := Ground.chain }, { on := 0, ground := Ground.phase }, { on := 1, ground := Ground.phase }, { on := 2, ground := Ground.phase }, { on := 3, ground := Ground.phase }, { on := 4, ground := Ground.phase }, { on := 5, ground := Ground.phase }, { on := 6, ground := Ground.phase }, { on := 7, ground := Ground.phase }, { on := 8, ground := Ground.phase }], guard := none }) (v := ?_) (by kernel_rfl) rfl (by rfl) (by kernel_rfl) (by kernel_rfl) (fun _ _ _ h => h) ?_ (by assumption) ?_
            rotate_left
            · (intro w hSw; (try dsimp only at hSw); go_simp; try with_reducible rfl)
            try simp only [Act.put, List.setIfInBounds_toArray, List.set_cons_zero, List.set_cons_succ]
            refine wpAnyH_done (by kernel_rfl) ?_ _
            have EQ4 : [] ++ numB i ++ numB t = numB i ++ numB t := by simp
            rw [EQ4] at O4 N4
            have L4 := hide (show (numB i ++ numB t).length ≤ 12 by have h1 := numB_six i (by omega); have h2 := numB_six t (by omega); rw [List.length_append]; omega)
            clear EQ4
            go_wp2_with fail
            go_at_call 56
            refine (sradd_calls V2.heap.size n4 mn (unhide N4) (unhide O4) (by have := unhide L4; omega) (by have := unhide M20; omega) (unhide F).size).mono ?_
            rintro e V5 ⟨sp5, n5, c5, rfl, hn5, ho5, v5⟩
            have F := hide ((unhide F).trans v5)
            have O5 := hide ho5
            have N5 := hide (unhide hn5)
            have L5 := hide (show (numB i ++ numB t ++ numB mn).length ≤ 18 by have h1 := unhide L4; have h2 := numB_six mn (by have := unhide M20; omega); rw [List.length_append]; omega)
            have MB := hide ((unhide MO).later (unhide F))
            clear ho5 hn5 v5
            go_wp2_with (at_builtin
                         refine wpList_append8 rfl (.tmp 56) (.tmp 57) rfl V2.heap.size sp5 n5 c5 (numB i ++ numB t ++ numB mn) rfl (unhide N5) (by exact unhide O5) mp mn mc rfl (listB s.v ++ listB s.l) (unhide MN) (by exact (unhide MB).bytes) (by exact (unhide MB).nil0) (by have h1 := unhide L5; have h2 := unhide M20; omega) (by exact (unhide F).size) ?_
                         intro sp6 n6 c6 V6 hn6 ho6 hg6 v6
                         have F := hide ((unhide F).trans v6)
                         have O6 := hide ho6
                         have N6 := hide (unhide hn6)
                         have L6 := hide (show (numB i ++ numB t ++ numB mn ++ (listB s.v ++ listB s.l)).length ≤ 38 by have h1 := unhide L5; have h2 := unhide ML; rw [List.length_append]; omega)
                         have g4 := box_cell (unhide KY _ (unhide F)) 4 _ rfl
                         clear ho6 hn6 v6 hg6)
            clear g4
            go_at_call 56
            refine (sradd_calls V2.heap.size n6 dn (unhide N6) (unhide O6) (by have := unhide L6; omega) (by omega) (unhide F).size).mono ?_
            rintro e V7 ⟨sp7, n7, c7, rfl, hn7, ho7, v7⟩
            have F := hide ((unhide F).trans v7)
            have O7 := hide ho7
            have N7 := hide (unhide hn7)
            have L7 := hide (show (numB i ++ numB t ++ numB mn ++ (listB s.v ++ listB s.l) ++ numB dn).length ≤ 44 by have h1 := unhide L6; have h2 := numB_six dn (by omega); rw [List.length_append]; omega)
            have g4 := box_cell (unhide KY _ (unhide F)) 4 _ rfl
            have HD := hide ((unhide HS).d.later ((unhide U2').trans ((unhide F).mono (unhide U2').size)))
            clear ho7 hn7 v7
            go_wp2_with (at_builtin
                         refine wpList_append8 rfl (.tmp 64) (.tmp 66) rfl V2.heap.size sp7 n7 c7 (numB i ++ numB t ++ numB mn ++ (listB s.v ++ listB s.l) ++ numB dn) rfl (unhide N7) (by exact unhide O7) h.dp dn h.dc rfl s.d (unhide DL) (by exact unhide HD) (by exact (unhide HS).dz) (by have h1 := unhide L7; omega) (by exact (unhide F).size) ?_
                         intro sp8 n8 c8 V8 hn8 ho8 hg8 v8
                         have EQ8 : numB i ++ numB t ++ numB mn ++ (listB s.v ++ listB s.l) ++ numB dn ++ s.d = snI s := by
                           rw [unhide SI]
                           unfold inB
                           rw [unhide MN, unhide DL]
                           simp only [List.append_assoc]
                         rw [EQ8] at hn8 ho8
                         have F := hide ((unhide F).trans v8)
                         have O8 := hide ho8
                         have N8 := hide (unhide hn8)
                         have FC := hide (refFrame_ok sp8 c8 (snI s) V8 ho8.bytes ho8.nil0 (by have := unhide SL; omega))
                         rw [unhide N8] at FC
                         clear ho8 hn8 v8 hg8 g4 EQ8)
            go_at_call 21
            refine (unhide FC).mono ?_
            rintro e V9 ⟨sp9, c9, rfl, v9, ho9⟩
            have U9 := hide ((unhide U2').trans (((unhide F).trans (v9.mono (unhide F).size)).mono (unhide U2').size))
            have SB := hide (show snB s = frameB (snI s) by unfold snB; rw [if_pos (unhide Z0)])
            have FE := hide (show PutR s w (.returned (.tuple #[.slice sp9 (frameB (snI s)).length c9, .int .i64 0])) V9 from by
              refine ⟨unhide U9, .inr ⟨unhide Z0, sp9, _, c9, rfl, by rw [unhide SB], ?_⟩⟩
              rw [unhide SB]
              exact ho9.mono (Nat.le_trans (unhide U2').size (unhide F).size))
            clear v9 ho9 FC HI SB
            generalize (frameB (snI s)).length = n9 at *
            go_wp2
            go_ret2
            exact unhide FE
          exact AllReadyH.nil
        exact AllReadyH.nil
      exact AllReadyH.nil
end Go.Proofs.YtagncghpfdjkmaaGreatDoor
end
/- Snapshots: SnapPuts' walk. -/
section
namespace Go.Proofs.YtagncghpfdjkmaaGreatDoor.snapPuts
open Go.ChangeShapes Go.WideShapes Go.ChangeAt Go.RowKit
set_option linter.unusedVariables false

/-- Both tell the same bytes, or the same error. -/
def Two2 (s : Sn) (sp : Option Addr) (n c : Nat) (e : Int) (base : Nat) (w' : World) : Prop := e = (snE s : Int) ∧ (snB s).length = n ∧ BytesAt w' sp (snB s)
theorem snB_nil {s : Sn} (h : snE s ≠ 0) : snB s = [] := by unfold snB; rw [if_neg h]
set_option maxRecDepth 20000 in
set_option maxHeartbeats 8000000 in
theorem walk0 (s : Sn) (q0 : SnH) (w : World) (hb0 : SnAt w s q0) (hs0 : SnS s q0) (hTz : Tz w) :
    Calls Tryz.prog 3 #[.agg (snRow s q0)] w fun e w' => e = .returned (.bool true) ∧ Below w.heap.size w w' := by
  have U1 := hide ((Below.refl w.heap.size w).alloc (Nat.le_refl _) (.cells (snRow s q0) 29))
  have X1 := hide (heap_new w (.cells (snRow s q0) 29))
  have CC := hide (scopy_calls s q0 (w.alloc (.cells (snRow s q0) 29)) (hb0.later (unhide U1)) hs0)
  have Z0 := hide hb0
  have TZ := hide hTz
  have PC := hide (show ∀ (h : SnH) V, SnAt V s h → Calls Tryz.prog 15 #[.agg (snRow s h)] V (fun e w' => ∃ sp n c, e = .returned (.tuple #[.slice sp n c, .int .i64 (snE s : Int)]) ∧ Hid ((snB s).length = n) ∧ BytesAt w' sp (snB s) ∧ Below V.heap.size V w') from fun h V hV => (sput_calls s h V hV).mono (by
    rintro e W ⟨u, ⟨h0, rfl⟩ | ⟨h0, g, n, rfl, hn, ho⟩⟩
    · exact ⟨none, 0, 0, rfl, by rw [snB_nil h0]; rfl, by rw [snB_nil h0]; exact (OwnB.ofNil _ 0).bytes, u⟩
    · exact ⟨_, n, n, by rw [h0]; rfl, hn, ho.bytes, u⟩))
  have PR := hide (show ∀ (h : SnH) V, SnAt V s h → Calls Tryz.prog 16 #[.agg (snRow s h)] V (fun e w' => ∃ sp n c, e = .returned (.tuple #[.slice sp n c, .int .i64 (snE s : Int)]) ∧ Hid ((snB s).length = n) ∧ BytesAt w' sp (snB s) ∧ Below V.heap.size V w') from fun h V hV => (rputS_calls s h V hV).mono (by
    rintro e W ⟨u, ⟨h0, rfl⟩ | ⟨h0, sp, n, c, rfl, hn, ho⟩⟩
    · exact ⟨none, 0, 0, rfl, by rw [snB_nil h0]; rfl, by rw [snB_nil h0]; exact (OwnB.ofNil _ W.heap.size).bytes, u⟩
    · exact ⟨sp, n, c, by rw [h0]; rfl, hn, ho.bytes, u⟩))
  generalize ((snE s : Nat) : Int) = ei at *
  generalize snB s = B at *
  have P1 := hide (fun h V hV => unhide PC h V hV)
  unfold snRow at U1 X1 CC PC PR ⊢
  clear hb0 hs0 hTz P1
  have x0 := box_cell (unhide X1) 0 _ rfl
  have x1 := box_cell (unhide X1) 1 _ rfl
  have x2 := box_cell (unhide X1) 2 _ rfl
  have x3 := box_cell (unhide X1) 3 _ rfl
  have x4 := box_cell (unhide X1) 4 _ rfl
  go_enter Tryz.func3, Tryz.ntmps3
  go_wp2_with fail
  clear x0 x1 x2 x3 x4
  generalize w.alloc _ = W1 at *
  generalize hK : w.heap.size = K at *
  go_at_call 14
  refine (unhide CC).mono ?_
  rintro e V1 ⟨h1, rfl, s1, v1⟩
  have A1 := hide (show Below V1.heap.size V1 (V1.alloc (.cells #[.int .i64 s.i, .int .i64 s.t, .slice h1.va s.v.length h1.vc, .slice h1.la s.l.length h1.lc, .slice h1.dp s.d.length h1.dc] 29)) from (Below.refl _ _).alloc (Nat.le_refl _) _)
  have Y2 := hide (heap_new V1 (.cells #[.int .i64 s.i, .int .i64 s.t, .slice h1.va s.v.length h1.vc, .slice h1.la s.l.length h1.lc, .slice h1.dp s.d.length h1.dc] 29))
  have X2 := hide (later_block (unhide A1) (later_block v1 (unhide X1)))
  have S2 := hide (s1.later (unhide A1))
  have U2 := hide ((unhide U1).trans ((v1.trans ((unhide A1).mono v1.size)).mono (by rw [← hK]; exact (unhide U1).size)))
  have PC1 := hide (unhide PC h1 _ (unhide S2))
  have y0 := box_cell (unhide Y2) 0 _ rfl
  have y1 := box_cell (unhide Y2) 1 _ rfl
  have y2 := box_cell (unhide Y2) 2 _ rfl
  have y3 := box_cell (unhide Y2) 3 _ rfl
  have y4 := box_cell (unhide Y2) 4 _ rfl
  clear s1 v1 CC A1 X1 PC
  go_wp2_with fail
  clear y0 y1 y2 y3 y4
  generalize V1.alloc _ = W2 at *
  generalize V1.heap.size = E1 at *
  go_at_call 15
  refine (unhide PC1).mono ?_
  rintro e V3 ⟨p3, n3, c3, rfl, N3, B3, v3⟩
  have X3 := hide (later_block v3 (unhide X2))
  have Y3 := hide (later_block v3 (unhide Y2))
  have U3 := hide ((unhide U2).trans (v3.mono (by rw [← hK]; exact (unhide U2).size)))
  have S3 := hide ((unhide S2).later v3)
  have BB3 := hide B3
  have PR1 := hide (unhide PR q0 V3 ((unhide Z0).later (by rw [hK]; exact unhide U3)))
  have x0 := box_cell (unhide X3) 0 _ rfl
  have x1 := box_cell (unhide X3) 1 _ rfl
  have x2 := box_cell (unhide X3) 2 _ rfl
  have x3 := box_cell (unhide X3) 3 _ rfl
  have x4 := box_cell (unhide X3) 4 _ rfl
  clear v3 B3 PC1 X2 Y2 S2 PR
  go_wp2_with fail
  clear x0 x1 x2 x3 x4
  go_at_call 16
  refine (unhide PR1).mono ?_
  rintro e V4 ⟨p4, n4, c4, rfl, N4, B4, v4⟩
  have U4 := hide ((unhide U3).trans (v4.mono (by rw [← hK]; exact (unhide U3).size)))
  have BB4 := hide B4
  have BB3' := hide ((unhide BB3).later v4)
  have X4 := hide (later_block v4 (unhide X3))
  have Y4 := hide (later_block v4 (unhide Y3))
  have S4 := hide ((unhide S3).later v4)
  clear v4 B4 PR1 BB3 X3 Y3 S3
  go_wp2_with fail
  go_at_call 17
  refine (live7_calls _ ((unhide TZ).later (by rw [hK]; exact unhide U4))).mono ?_
  rintro e V5 ⟨rfl, v5⟩
  have U5 := hide ((unhide U4).trans (v5.mono (by rw [← hK]; exact (unhide U4).size)))
  have k1 := run_string8 n3 c3 (unhide N3) ((unhide BB3').later v5)
  have k2 := run_string8 n4 c4 (unhide N4) ((unhide BB4).later v5)
  have q2 : ((strOf B).toList == (strOf B).toList) = true := by simp
  have q1 : (ei == ei) = true := by simp
  have X5 := hide (later_block v5 (unhide X4))
  have Y5 := hide (later_block v5 (unhide Y4))
  have SC := hide (sameS_yes s h1 q0 V5 ((unhide S4).later v5) ((unhide Z0).later (by rw [hK]; exact unhide U5)))
  unfold snRow at SC
  have x0 := box_cell (unhide X5) 0 _ rfl
  have x1 := box_cell (unhide X5) 1 _ rfl
  have x2 := box_cell (unhide X5) 2 _ rfl
  have x3 := box_cell (unhide X5) 3 _ rfl
  have x4 := box_cell (unhide X5) 4 _ rfl
  have y0 := box_cell (unhide Y5) 0 _ rfl
  have y1 := box_cell (unhide Y5) 1 _ rfl
  have y2 := box_cell (unhide Y5) 2 _ rfl
  have y3 := box_cell (unhide Y5) 3 _ rfl
  have y4 := box_cell (unhide Y5) 4 _ rfl
  clear v5 X4 Y4 S4
  generalize strOf B = sb at *
  go_wp2_with fail
  clear x0 x1 x2 x3 x4 y0 y1 y2 y3 y4
  go_at_call 18
  refine (unhide SC).mono ?_
  rintro e V6 ⟨rfl, v6⟩
  have FF := hide (show Below w.heap.size w V6 by rw [hK]; exact (unhide U5).trans (v6.mono (by rw [← hK]; exact (unhide U5).size)))
  clear v6
  go_wp2
  go_ret
  exact ⟨by first | rfl | simp, by first | exact unhide FF | (rw [← hK]; exact unhide FF)⟩
end Go.Proofs.YtagncghpfdjkmaaGreatDoor.snapPuts
end
