/- Proved: Add and Remove, Promote and Demote undo each other, and a change moves one voter at most, whatever the members and the node; no condition. -/
import Derived.Test.YtnclkkoefejjiaaMun
namespace Go.Proofs.Ytnclkkoefejjiaa.memberUndoes
open Go.ChangeShapes Go.WideShapes Go.ChangeAt Go.RowKit
set_option linter.unusedVariables false

theorem own : ownKnob Try.prog.godebug = none := by kernel_rfl
theorem laidOut : laidOutB Try.prog = true := by kernel_rfl

abbrev wB : Obj := .cells #[.int .i64 1, .int .i64 4, .int .i64 2, .int .i64 3, .int .i64 3, .int .i64 2] 50 (0, 0)
theorem ways {W : World} {D j : Nat} (h : W.heap[D]? = some wB) (hj : j < 3) : ∃ d d' : Int, ((d = 1 ∧ d' = 4) ∨ (d = 2 ∧ d' = 3) ∨ (d = 3 ∧ d' = 2)) ∧ W.cell? ⟨D, j * 2, none⟩ = some (.int .i64 d) ∧ W.cell? ⟨D, j * 2 + 1, none⟩ = some (.int .i64 d') := by
  rcases (by omega : j = 0 ∨ j = 1 ∨ j = 2) with rfl | rfl | rfl
  · exact ⟨1, 4, by omega, by rw [cell_of_row _ _ _ _ _ _ h]; rfl, by rw [cell_of_row _ _ _ _ _ _ h]; rfl⟩
  · exact ⟨2, 3, by omega, by rw [cell_of_row _ _ _ _ _ _ h]; rfl, by rw [cell_of_row _ _ _ _ _ _ h]; rfl⟩
  · exact ⟨3, 2, by omega, by rw [cell_of_row _ _ _ _ _ _ h]; rfl, by rw [cell_of_row _ _ _ _ _ _ h]; rfl⟩
set_option maxRecDepth 20000 in
set_option maxHeartbeats 32000000 in
theorem walk (va0 : Option Addr) (vc0 : Nat) (vs0 : List Int) (la0 : Option Addr) (lc0 : Nat) (ls0 : List Int) (n1 : Int) (w : World)
    (hsv0 : vs0.length * 8 ≤ 140737488351232) (hV0 : IntsAt w va0 vs0) (_ : va0 = none → vc0 = 0) (hsl0 : ls0.length * 8 ≤ 140737488351232) (hL0 : IntsAt w la0 ls0) (_ : la0 = none → lc0 = 0) (hn1 : -9223372036854775808 ≤ n1 ∧ n1 ≤ 9223372036854775807) :
    Calls Try.prog 11 #[mV va0 vs0.length vc0 la0 ls0.length lc0, .int .i64 n1] w fun e w' => e = .returned (.bool true) ∧ Below w.heap.size w w' := by
  obtain ⟨vn, hvn⟩ : ∃ n, vs0.length = n := ⟨_, rfl⟩
  obtain ⟨ln, hln⟩ : ∃ n, ls0.length = n := ⟨_, rfl⟩
  rw [hvn] at hsv0
  rw [hln] at hsl0
  rw [hvn, hln]
  have hvx : vn ≤ maxLen := by simp only [maxLen]; omega
  have hlx : ln ≤ maxLen := by simp only [maxLen]; omega
  have b1 := hide (show Below w.heap.size w ((w.alloc (mB va0 vn vc0 la0 ln lc0)).alloc wB) from ((Below.refl _ _).alloc (Nat.le_refl _) _).alloc (by simp) _)
  have X1 := hide (heap_old wB (heap_new w (mB va0 vn vc0 la0 ln lc0)))
  have C1 := hide (show ((w.alloc (mB va0 vn vc0 la0 ln lc0)).alloc wB).heap[w.heap.size + 1]? = some wB by
    have := heap_new (w.alloc (mB va0 vn vc0 la0 ln lc0)) wB
    rwa [World.size_alloc] at this)
  have V := hide (hV0.later (unhide b1))
  have L := hide (hL0.later (unhide b1))
  have VN := hide hvn
  have LN := hide hln
  have N64 := hide (show In64 n1 from hn1)
  clear hV0 hL0 hvn hln hn1
  go_enter Try.func11, Try.ntmps11
  go_wp2_with fail
  generalize hD : w.heap.size = D at *
  generalize (w.alloc (mB va0 vn vc0 la0 ln lc0)).alloc wB = w1 at *
  go_loopw [6] (fun i wr => ∃ (j : Nat), j ≤ 3 ∧ i = .int .i64 (j : Int) ∧ Hid (Below w1.heap.size w1 wr)) (fun i _ => 3 - (intOf i).toNat)
  case atStart => exact ⟨0, by omega, rfl, Below.refl _ _⟩
  case round =>
    obtain ⟨j, hj, rfl, F0⟩ := hrel
    by_cases hj3 : j < 3
    · have X2 := hide (later_block (unhide F0) (unhide X1))
      have C2 := hide (later_block (unhide F0) (unhide C1))
      obtain ⟨d, d', hdd, p0, p1⟩ := ways (unhide C2) hj3
      have DD := hide hdd
      have c0 := box_cell (unhide X2) 0 _ rfl
      have c1 := box_cell (unhide X2) 1 _ rfl
      have hj0 : (0 : Int) ≤ (j : Int) := by omega
      have hj1 : (j : Int) < 3 := by omega
      clear hdd
      go_wp2_with fail
      have F := hide (show Below wr.heap.size wr wr.drew from (Below.refl _ _).drew)
      have VW := hide ((unhide V).later (unhide F0))
      have LW := hide ((unhide L).later (unhide F0))
      refine wp_region_held_drew (S := fun w' => (w'.cell? ⟨D, 0, none⟩ = some (.slice va0 vn vc0) ∧ w'.cell? ⟨D, 1, none⟩ = some (.slice la0 ln lc0)) ∧ w'.cell? ⟨D + 1, j * 2, none⟩ = some (.int .i64 d)) (by kernel_rfl) ?_ (fun hHeld => ?_)
      · try dsimp only
        first | exact ⟨⟨cell_later (unhide F) c0, cell_later (unhide F) c1⟩, cell_later (unhide F) p0⟩ | (have t0 := cell_later (unhide F) c0; have t1 := cell_later (unhide F) c1; have t2 := cell_later (unhide F) p0; have u0 := cell_lt t0; exact ⟨⟨set2_cell t0 (by have := unhide GW; have := cell_lt c0; omega) _ _, set2_cell t1 (by have := unhide GW; have := cell_lt c0; omega) _ _⟩, set2_cell t2 (by have := unhide GW; have := cell_lt p0; omega) _ _⟩)
      refine held_take 0 (oi := { dst := some 23, op := Op.load 24 (Operand.tmp 2), type := 24, pos := "law.go:116", after := #[], guard := none }) (v := ?_) (by kernel_rfl) rfl (by rfl) (by kernel_rfl) (by kernel_rfl) (fun _ _ _ h => h) ?_ (by assumption) ?_
      rotate_left
      · (intro w hSw; (try dsimp only at hSw); go_simp; try with_reducible rfl)
      try simp only [Act.put, List.setIfInBounds_toArray, List.set_cons_zero, List.set_cons_succ]
      refine held_take 1 (oi := { dst := some 24, op := Op.move (Operand.tmp 5), type := 51, pos := "law.go:116", after := #[], guard := none }) (v := ?_) (by kernel_rfl) rfl (by rfl) (by kernel_rfl) (by kernel_rfl) (fun _ _ _ h => h) ?_ (by assumption) ?_
      rotate_left
      · (intro w hSw; (try dsimp only at hSw); go_simp; try with_reducible rfl)
      try simp only [Act.put, List.setIfInBounds_toArray, List.set_cons_zero, List.set_cons_succ]
      refine held_take 2 (oi := { dst := some 25, op := Op.move (Operand.tmp 6), type := 3, pos := "law.go:116", after := #[], guard := none }) (v := ?_) (by kernel_rfl) rfl (by rfl) (by kernel_rfl) (by kernel_rfl) (fun _ _ _ h => h) ?_ (by assumption) ?_
      rotate_left
      · (intro w hSw; (try dsimp only at hSw); go_simp; try with_reducible rfl)
      try simp only [Act.put, List.setIfInBounds_toArray, List.set_cons_zero, List.set_cons_succ]
      refine held_take 3 (oi := { dst := some 26, op := Op.indexAddr 51 (Operand.tmp 24) (Operand.tmp 25), type := 0, pos := "law.go:116", after := #[{ on := 1, ground := Ground.data }, { on := 2, ground := Ground.data }], guard := none }) (v := ?_) (by kernel_rfl) rfl (by rfl) (by kernel_rfl) (by kernel_rfl) (fun _ _ _ h => h) ?_ (by assumption) ?_
      rotate_left
      · (intro w hSw; (try dsimp only at hSw); go_simp; try with_reducible rfl)
      try simp only [Act.put, List.setIfInBounds_toArray, List.set_cons_zero, List.set_cons_succ]
      refine held_take 4 (oi := { dst := some 27, op := Op.indexAddr 50 (Operand.tmp 26) (Operand.const (Value.int IntKind.i64 0)), type := 0, pos := "law.go:116", after := #[{ on := 3, ground := Ground.data }], guard := none }) (v := ?_) (by kernel_rfl) rfl (by rfl) (by kernel_rfl) (by kernel_rfl) (fun _ _ _ h => h) ?_ (by assumption) ?_
      rotate_left
      · (intro w hSw; (try dsimp only at hSw); go_simp; try with_reducible rfl)
      try simp only [Act.put, List.setIfInBounds_toArray, List.set_cons_zero, List.set_cons_succ]
      refine held_take 5 (oi := { dst := some 28, op := Op.load 38 (Operand.tmp 27), type := 38, pos := "law.go:116", after := #[{ on := 4, ground := Ground.data }], guard := none }) (v := ?_) (by kernel_rfl) rfl (by rfl) (by kernel_rfl) (by kernel_rfl) (fun _ _ _ h => h) ?_ (by assumption) ?_
      rotate_left
      · (intro w hSw; (try dsimp only at hSw); go_simp; try with_reducible rfl)
      try simp only [Act.put, List.setIfInBounds_toArray, List.set_cons_zero, List.set_cons_succ]
      refine held_take 6 (oi := { dst := some 29, op := Op.move (Operand.tmp 1), type := 3, pos := "law.go:116", after := #[], guard := none }) (v := ?_) (by kernel_rfl) rfl (by rfl) (by kernel_rfl) (by kernel_rfl) (fun _ _ _ h => h) ?_ (by assumption) ?_
      rotate_left
      · (intro w hSw; (try dsimp only at hSw); go_simp; try with_reducible rfl)
      try simp only [Act.put, List.setIfInBounds_toArray, List.set_cons_zero, List.set_cons_succ]
      refine held_take 7 (oi := { dst := some 30, op := Op.build 40 #[(0, Operand.tmp 28), (1, Operand.tmp 29)], type := 40, pos := "law.go:116", after := #[{ on := 5, ground := Ground.data }, { on := 6, ground := Ground.data }], guard := none }) (v := ?_) (by kernel_rfl) rfl (by rfl) (by kernel_rfl) (by kernel_rfl) (fun _ _ _ h => h) ?_ (by assumption) ?_
      rotate_left
      · (intro w hSw; (try dsimp only at hSw); go_simp; try with_reducible rfl)
      try simp only [Act.put, List.setIfInBounds_toArray, List.set_cons_zero, List.set_cons_succ]
      refine wpAnyH_ready (rs := [8, 12]) (by kernel_rfl) (by simp) ?_
      refine AllReadyH.cons (o := { dst := some 31, op := Op.call { callee := Callee.value (Operand.func 30), args := #[Operand.tmp 23, Operand.tmp 30], argTypes := #[24, 40] }, type := 42, pos := "law.go:116", after := #[{ on := 0, ground := Ground.data }, { on := 7, ground := Ground.data }], guard := none }) rfl (fun K hK => ?_) ?_
      · go_simp
        refine (apply_calls ((unhide VW).later (unhide F)) ((unhide LW).later (unhide F)) vn ln (unhide VN) (unhide LN) hvx hlx d n1 (unhide N64)).mono ?_
        rintro e W3 ⟨hres, b3⟩
        obtain ⟨spA, nA, cA, spB, nB, cB', er, rfl, ar⟩ := apply_open hres
        clear hres
        (try have NE := hide (show ∀ b, er = 0 → (blk spA = some b ∨ blk spB = some b) → b ≠ g from fun b h0 hb => by have h1 := (ar.lt b h0 hb).1; have h2 := unhide GL; omega))
        (try have GX := hide (later_block b3 (unhide GX)))
        have F := hide ((unhide F).trans (b3.mono (unhide F).size))
        have AX := hide (ar.mono (unhide (by assumption : Hid (Below wr.heap.size wr _))).size)
        clear ar b3
        go_wp2_with fail
        refine hK.out _ _ ?_ (fun hHeld => ?_)
        · try dsimp only
          first | exact ⟨⟨cell_later (unhide F) c0, cell_later (unhide F) c1⟩, cell_later (unhide F) p0⟩ | (have t0 := cell_later (unhide F) c0; have t1 := cell_later (unhide F) c1; have t2 := cell_later (unhide F) p0; have u0 := cell_lt t0; exact ⟨⟨set2_cell t0 (by have := unhide GW; have := cell_lt c0; omega) _ _, set2_cell t1 (by have := unhide GW; have := cell_lt c0; omega) _ _⟩, set2_cell t2 (by have := unhide GW; have := cell_lt p0; omega) _ _⟩)
        clear hK K
        try simp only [Act.put, List.setIfInBounds_toArray, List.set_cons_zero, List.set_cons_succ]
        refine held_take 9 (oi := { dst := some 22, op := Op.move (Operand.tmp 31), type := 42, pos := "law.go:116", after := #[{ on := 8, ground := Ground.data }], guard := none }) (v := ?_) (by kernel_rfl) rfl (by rfl) (by kernel_rfl) (by kernel_rfl) (fun _ _ _ h => h) ?_ (by assumption) ?_
        rotate_left
        · (intro w hSw; (try dsimp only at hSw); go_simp; try with_reducible rfl)
        try simp only [Act.put, List.setIfInBounds_toArray, List.set_cons_zero, List.set_cons_succ]
        refine held_take 10 (oi := { dst := some 32, op := Op.extract (Operand.tmp 22) 0, type := 24, pos := "law.go:116", after := #[{ on := 9, ground := Ground.data }], guard := none }) (v := ?_) (by kernel_rfl) rfl (by rfl) (by kernel_rfl) (by kernel_rfl) (fun _ _ _ h => h) ?_ (by assumption) ?_
        rotate_left
        · (intro w hSw; (try dsimp only at hSw); go_simp; try with_reducible rfl)
        try simp only [Act.put, List.setIfInBounds_toArray, List.set_cons_zero, List.set_cons_succ]
        refine held_take 11 (oi := { dst := some 33, op := Op.extract (Operand.tmp 22) 1, type := 41, pos := "law.go:116", after := #[{ on := 9, ground := Ground.data }, { on := 13, ground := Ground.gcOnly Departure.lateStores }], guard := none }) (v := ?_) (by kernel_rfl) rfl (by rfl) (by kernel_rfl) (by kernel_rfl) (fun _ _ _ h => h) ?_ (by assumption) ?_
        rotate_left
        · (intro w hSw; (try dsimp only at hSw); go_simp; try with_reducible rfl)
        try simp only [Act.put, List.setIfInBounds_toArray, List.set_cons_zero, List.set_cons_succ]
        refine wpAnyH_ready (rs := [12]) (by kernel_rfl) (by simp) ?_
        refine AllReadyH.cons (o := { dst := some 7, op := Op.alloc 24, type := 0, pos := "law.go:116", after := #[], guard := none }) rfl (fun K hK => ?_) ?_
        · refine step_alloc24 rfl rfl ?_
          intro g W4 hg gx b4
          (try have NE := hide (show ∀ b, er = 0 → (blk spA = some b ∨ blk spB = some b) → b ≠ g from fun b h0 hb => by have h1 := ((unhide AX).lt b h0 hb).2; have h2 := unhide hg; omega))
          (try have AX := hide ((unhide AX).later b4))
          have GX := hide gx
          have GL := hide (show g < W4.heap.size from (Array.getElem?_eq_some_iff.1 gx).1)
          have GW := hide (show wr.heap.size ≤ g by have h2 := unhide hg; have := (unhide F).size; omega)
          have F := hide ((unhide F).trans (b4.mono (unhide F).size))
          clear gx b4 hg
          refine hK.out _ _ ?_ (fun hHeld => ?_)
          · try dsimp only
            first | exact ⟨⟨cell_later (unhide F) c0, cell_later (unhide F) c1⟩, cell_later (unhide F) p0⟩ | (have t0 := cell_later (unhide F) c0; have t1 := cell_later (unhide F) c1; have t2 := cell_later (unhide F) p0; have u0 := cell_lt t0; exact ⟨⟨set2_cell t0 (by have := unhide GW; have := cell_lt c0; omega) _ _, set2_cell t1 (by have := unhide GW; have := cell_lt c0; omega) _ _⟩, set2_cell t2 (by have := unhide GW; have := cell_lt p0; omega) _ _⟩)
          clear hK K
          try simp only [Act.put, List.setIfInBounds_toArray, List.set_cons_zero, List.set_cons_succ]
          refine wpAnyH_ready (rs := [13]) (by kernel_rfl) (by simp) ?_
          refine AllReadyH.cons (o := { dst := none, op := Op.store 24 (Operand.tmp 7) (Operand.tmp 32), type := 0, pos := "law.go:116", after := #[{ on := 12, ground := Ground.data }, { on := 10, ground := Ground.data }, { on := 8, ground := Ground.chain }, { on := 0, ground := Ground.phase }, { on := 1, ground := Ground.phase }, { on := 2, ground := Ground.phase }, { on := 3, ground := Ground.phase }, { on := 4, ground := Ground.phase }, { on := 5, ground := Ground.phase }, { on := 6, ground := Ground.phase }, { on := 7, ground := Ground.phase }, { on := 8, ground := Ground.phase }, { on := 9, ground := Ground.phase }, { on := 10, ground := Ground.phase }, { on := 11, ground := Ground.textOnly Departure.lateStores }, { on := 12, ground := Ground.phase }], guard := none }) rfl (fun K hK => ?_) ?_
          · have z0 := box_cell (unhide GX) 0 _ rfl
            have z1 := box_cell (unhide GX) 1 _ rfl
            have z2 := mbox_free (unhide GX) 0
            have z3 := mbox_free (unhide GX) 1
            go_simp
            refine hK.out _ _ ?_ (fun hHeld => ?_)
            · try dsimp only
              first | exact ⟨⟨cell_later (unhide F) c0, cell_later (unhide F) c1⟩, cell_later (unhide F) p0⟩ | (have t0 := cell_later (unhide F) c0; have t1 := cell_later (unhide F) c1; have t2 := cell_later (unhide F) p0; have u0 := cell_lt t0; exact ⟨⟨set2_cell t0 (by have := unhide GW; have := cell_lt c0; omega) _ _, set2_cell t1 (by have := unhide GW; have := cell_lt c0; omega) _ _⟩, set2_cell t2 (by have := unhide GW; have := cell_lt p0; omega) _ _⟩)
            clear hK K
            try simp only [Act.put, List.setIfInBounds_toArray, List.set_cons_zero, List.set_cons_succ]
            refine held_take 14 (oi := { dst := some 8, op := Op.assign (Operand.tmp 33), type := 41, pos := "law.go:116", after := #[{ on := 11, ground := Ground.data }, { on := 13, ground := Ground.chain }, { on := 0, ground := Ground.phase }, { on := 1, ground := Ground.phase }, { on := 2, ground := Ground.phase }, { on := 3, ground := Ground.phase }, { on := 4, ground := Ground.phase }, { on := 5, ground := Ground.phase }, { on := 6, ground := Ground.phase }, { on := 7, ground := Ground.phase }, { on := 8, ground := Ground.phase }, { on := 9, ground := Ground.phase }, { on := 10, ground := Ground.phase }, { on := 11, ground := Ground.phase }, { on := 12, ground := Ground.phase }, { on := 13, ground := Ground.phase }], guard := none }) (v := ?_) (by kernel_rfl) rfl (by rfl) (by kernel_rfl) (by kernel_rfl) (fun _ _ _ h => h) ?_ (by assumption) ?_
            rotate_left
            · (intro w hSw; (try dsimp only at hSw); go_simp; try with_reducible rfl)
            try simp only [Act.put, List.setIfInBounds_toArray, List.set_cons_zero, List.set_cons_succ]
            refine wpAnyH_done (by kernel_rfl) ?_ _
            obtain ⟨U, y0, y1, gU, hU⟩ := two_sets (unhide GX) (.slice spA nA cA) (.slice spB nB cB')
            rw [hU]
            have AU := hide ((unhide AX).kept gU (unhide NE))
            have FU := hide ((unhide F).grown gU (unhide F).size (fun b e => by have := Option.some.inj e; have := unhide GW; omega))
            have EU := hide ((unhide F0).trans ((unhide FU).mono (unhide F0).size))
            clear hU gU hHeld
            rcases unhide AU with ⟨hne, _⟩ | ⟨rfl, hz, hnA, hnB, oA, oB⟩
            · go_wp2
              exact ⟨⟨j + 1, by omega, by go_num, unhide EU⟩, by simp [intOf]; omega⟩
            · obtain ⟨uz, uk⟩ := undo_pure hz (unhide DD)
              obtain ⟨hr, hm, ht⟩ := apply_zero hz
              have hn19 := (may_parts hm).2
              have hr' := right_to (voters_some hr hn19 ht)
              have hbv := back_voters (n := n1) hr (turned_three (kindM vs0 ls0 n1) d vs0.length)
              have hbl := back_learners (n := n1) hr (turned_three (kindM vs0 ls0 n1) d vs0.length)
              have hnl := near_len (n := n1) (k := (turnedM (kindM vs0 ls0 n1) d vs0.length).1) hr
              have l1 := voters_len (v := vs0) (l := ls0) (n := n1) (k := (turnedM (kindM vs0 ls0 n1) d vs0.length).1)
              have l2 := learners_len (v := vs0) (l := ls0) (n := n1) (k := (turnedM (kindM vs0 ls0 n1) d vs0.length).1)
              generalize votersTo vs0 ls0 n1 (turnedM (kindM vs0 ls0 n1) d vs0.length).1 = v' at *
              generalize learnersTo vs0 ls0 n1 (turnedM (kindM vs0 ls0 n1) d vs0.length).1 = l' at *
              have mA : nA ≤ maxLen := by simp only [maxLen]; omega
              have mB' : nB ≤ maxLen := by simp only [maxLen]; omega
              have NA := hide hnA
              have NB := hide hnB
              have IA := hide oA.ints
              have IB := hide oB.ints
              have UZ := hide uz
              have UK := hide uk
              have BV := hide hbv
              have BL := hide hbl
              have RX := hide hr'
              have NL := hide (show (nA : Int) - (vn : Int) ≤ 1 ∧ -1 ≤ (nA : Int) - (vn : Int) by have := unhide VN; omega)
              have CU := hide (later_block (unhide EU) (unhide C1))
              have q1 : U.cell? ⟨D + 1, j * 2 + 1, none⟩ = some (.int .i64 d') := cell_later (unhide FU) p1
              clear hnA hnB oA oB uz uk hbv hbl hr' hnl l1 l2 hr hm ht hz hn19 AU AX NE GX
              have G := hide (show Below U.heap.size U U.drew from (Below.refl _ _).drew)
              go_wp2_with fail
              refine wp_region_held_drew (S := fun w' => (w'.cell? ⟨g, 0, none⟩ = some (.slice spA nA cA) ∧ w'.cell? ⟨g, 1, none⟩ = some (.slice spB nB cB')) ∧ w'.cell? ⟨D + 1, j * 2 + 1, none⟩ = some (.int .i64 d')) (by kernel_rfl) ?_ (fun hHeld => ?_)
              · try dsimp only
                first | exact ⟨⟨cell_later (unhide G) y0, cell_later (unhide G) y1⟩, cell_later (unhide G) q1⟩ | (have t0 := cell_later (unhide G) y0; have t1 := cell_later (unhide G) y1; have t2 := cell_later (unhide G) q1; exact ⟨⟨set2_cell t0 (by have := unhide HW; have := cell_lt y0; omega) _ _, set2_cell t1 (by have := unhide HW; have := cell_lt y0; omega) _ _⟩, set2_cell t2 (by have := unhide HW; have := cell_lt q1; omega) _ _⟩)
              refine held_take 0 (oi := { dst := some 37, op := Op.load 24 (Operand.tmp 7), type := 24, pos := "law.go:120", after := #[], guard := none }) (v := ?_) (by kernel_rfl) rfl (by rfl) (by kernel_rfl) (by kernel_rfl) (fun _ _ _ h => h) ?_ (by assumption) ?_
              rotate_left
              · (intro w hSw; (try dsimp only at hSw); go_simp; try with_reducible rfl)
              try simp only [Act.put, List.setIfInBounds_toArray, List.set_cons_zero, List.set_cons_succ]
              refine held_take 1 (oi := { dst := some 38, op := Op.move (Operand.tmp 5), type := 51, pos := "law.go:120", after := #[], guard := none }) (v := ?_) (by kernel_rfl) rfl (by rfl) (by kernel_rfl) (by kernel_rfl) (fun _ _ _ h => h) ?_ (by assumption) ?_
              rotate_left
              · (intro w hSw; (try dsimp only at hSw); go_simp; try with_reducible rfl)
              try simp only [Act.put, List.setIfInBounds_toArray, List.set_cons_zero, List.set_cons_succ]
              refine held_take 2 (oi := { dst := some 39, op := Op.move (Operand.tmp 6), type := 3, pos := "law.go:120", after := #[], guard := none }) (v := ?_) (by kernel_rfl) rfl (by rfl) (by kernel_rfl) (by kernel_rfl) (fun _ _ _ h => h) ?_ (by assumption) ?_
              rotate_left
              · (intro w hSw; (try dsimp only at hSw); go_simp; try with_reducible rfl)
              try simp only [Act.put, List.setIfInBounds_toArray, List.set_cons_zero, List.set_cons_succ]
              refine held_take 3 (oi := { dst := some 40, op := Op.indexAddr 51 (Operand.tmp 38) (Operand.tmp 39), type := 0, pos := "law.go:120", after := #[{ on := 1, ground := Ground.data }, { on := 2, ground := Ground.data }], guard := none }) (v := ?_) (by kernel_rfl) rfl (by rfl) (by kernel_rfl) (by kernel_rfl) (fun _ _ _ h => h) ?_ (by assumption) ?_
              rotate_left
              · (intro w hSw; (try dsimp only at hSw); go_simp; try with_reducible rfl)
              try simp only [Act.put, List.setIfInBounds_toArray, List.set_cons_zero, List.set_cons_succ]
              refine held_take 4 (oi := { dst := some 41, op := Op.indexAddr 50 (Operand.tmp 40) (Operand.const (Value.int IntKind.i64 1)), type := 0, pos := "law.go:120", after := #[{ on := 3, ground := Ground.data }], guard := none }) (v := ?_) (by kernel_rfl) rfl (by rfl) (by kernel_rfl) (by kernel_rfl) (fun _ _ _ h => h) ?_ (by assumption) ?_
              rotate_left
              · (intro w hSw; (try dsimp only at hSw); go_simp; try with_reducible rfl)
              try simp only [Act.put, List.setIfInBounds_toArray, List.set_cons_zero, List.set_cons_succ]
              refine held_take 5 (oi := { dst := some 42, op := Op.load 38 (Operand.tmp 41), type := 38, pos := "law.go:120", after := #[{ on := 4, ground := Ground.data }], guard := none }) (v := ?_) (by kernel_rfl) rfl (by rfl) (by kernel_rfl) (by kernel_rfl) (fun _ _ _ h => h) ?_ (by assumption) ?_
              rotate_left
              · (intro w hSw; (try dsimp only at hSw); go_simp; try with_reducible rfl)
              try simp only [Act.put, List.setIfInBounds_toArray, List.set_cons_zero, List.set_cons_succ]
              refine held_take 6 (oi := { dst := some 43, op := Op.move (Operand.tmp 1), type := 3, pos := "law.go:120", after := #[], guard := none }) (v := ?_) (by kernel_rfl) rfl (by rfl) (by kernel_rfl) (by kernel_rfl) (fun _ _ _ h => h) ?_ (by assumption) ?_
              rotate_left
              · (intro w hSw; (try dsimp only at hSw); go_simp; try with_reducible rfl)
              try simp only [Act.put, List.setIfInBounds_toArray, List.set_cons_zero, List.set_cons_succ]
              refine held_take 7 (oi := { dst := some 44, op := Op.build 40 #[(0, Operand.tmp 42), (1, Operand.tmp 43)], type := 40, pos := "law.go:120", after := #[{ on := 5, ground := Ground.data }, { on := 6, ground := Ground.data }], guard := none }) (v := ?_) (by kernel_rfl) rfl (by rfl) (by kernel_rfl) (by kernel_rfl) (fun _ _ _ h => h) ?_ (by assumption) ?_
              rotate_left
              · (intro w hSw; (try dsimp only at hSw); go_simp; try with_reducible rfl)
              try simp only [Act.put, List.setIfInBounds_toArray, List.set_cons_zero, List.set_cons_succ]
              refine wpAnyH_ready (rs := [8, 12]) (by kernel_rfl) (by simp) ?_
              refine AllReadyH.cons (o := { dst := some 45, op := Op.call { callee := Callee.value (Operand.func 30), args := #[Operand.tmp 37, Operand.tmp 44], argTypes := #[24, 40] }, type := 42, pos := "law.go:120", after := #[{ on := 0, ground := Ground.data }, { on := 7, ground := Ground.data }], guard := none }) rfl (fun K hK => ?_) ?_
              · go_simp
                refine (apply_calls ((unhide IA).later (unhide G)) ((unhide IB).later (unhide G)) nA nB (unhide NA) (unhide NB) mA mB' d' n1 (unhide N64)).mono ?_
                rintro e W5 ⟨hres, b5⟩
                obtain ⟨spC, nC, cC, spE, nE, cE, er2, rfl, ar⟩ := apply_open hres
                clear hres
                (try have NE := hide (show ∀ b, er2 = 0 → (blk spC = some b ∨ blk spE = some b) → b ≠ h from fun b h0 hb => by have h1 := (ar.lt b h0 hb).1; have h2 := unhide GL2; omega))
                (try have GX := hide (later_block b5 (unhide GX)))
                have G := hide ((unhide G).trans (b5.mono (unhide G).size))
                have AX := hide ar
                clear ar b5
                go_wp2_with fail
                refine hK.out _ _ ?_ (fun hHeld => ?_)
                · try dsimp only
                  first | exact ⟨⟨cell_later (unhide G) y0, cell_later (unhide G) y1⟩, cell_later (unhide G) q1⟩ | (have t0 := cell_later (unhide G) y0; have t1 := cell_later (unhide G) y1; have t2 := cell_later (unhide G) q1; exact ⟨⟨set2_cell t0 (by have := unhide HW; have := cell_lt y0; omega) _ _, set2_cell t1 (by have := unhide HW; have := cell_lt y0; omega) _ _⟩, set2_cell t2 (by have := unhide HW; have := cell_lt q1; omega) _ _⟩)
                clear hK K
                try simp only [Act.put, List.setIfInBounds_toArray, List.set_cons_zero, List.set_cons_succ]
                refine held_take 9 (oi := { dst := some 36, op := Op.move (Operand.tmp 45), type := 42, pos := "law.go:120", after := #[{ on := 8, ground := Ground.data }], guard := none }) (v := ?_) (by kernel_rfl) rfl (by rfl) (by kernel_rfl) (by kernel_rfl) (fun _ _ _ h => h) ?_ (by assumption) ?_
                rotate_left
                · (intro w hSw; (try dsimp only at hSw); go_simp; try with_reducible rfl)
                try simp only [Act.put, List.setIfInBounds_toArray, List.set_cons_zero, List.set_cons_succ]
                refine held_take 10 (oi := { dst := some 46, op := Op.extract (Operand.tmp 36) 0, type := 24, pos := "law.go:120", after := #[{ on := 9, ground := Ground.data }], guard := none }) (v := ?_) (by kernel_rfl) rfl (by rfl) (by kernel_rfl) (by kernel_rfl) (fun _ _ _ h => h) ?_ (by assumption) ?_
                rotate_left
                · (intro w hSw; (try dsimp only at hSw); go_simp; try with_reducible rfl)
                try simp only [Act.put, List.setIfInBounds_toArray, List.set_cons_zero, List.set_cons_succ]
                refine held_take 11 (oi := { dst := some 47, op := Op.extract (Operand.tmp 36) 1, type := 41, pos := "law.go:120", after := #[{ on := 9, ground := Ground.data }, { on := 13, ground := Ground.gcOnly Departure.lateStores }], guard := none }) (v := ?_) (by kernel_rfl) rfl (by rfl) (by kernel_rfl) (by kernel_rfl) (fun _ _ _ h => h) ?_ (by assumption) ?_
                rotate_left
                · (intro w hSw; (try dsimp only at hSw); go_simp; try with_reducible rfl)
                try simp only [Act.put, List.setIfInBounds_toArray, List.set_cons_zero, List.set_cons_succ]
                refine wpAnyH_ready (rs := [12]) (by kernel_rfl) (by simp) ?_
                refine AllReadyH.cons (o := { dst := some 9, op := Op.alloc 24, type := 0, pos := "law.go:120", after := #[], guard := none }) rfl (fun K hK => ?_) ?_
                · refine step_alloc24 rfl rfl ?_
                  intro h W6 hg gx b6
                  (try have NE := hide (show ∀ b, er2 = 0 → (blk spC = some b ∨ blk spE = some b) → b ≠ h from fun b h0 hb => by have h1 := ((unhide AX).lt b h0 hb).2; have h2 := unhide hg; omega))
                  (try have AX := hide ((unhide AX).later b6))
                  have GX := hide gx
                  have GL2 := hide (show h < W6.heap.size from (Array.getElem?_eq_some_iff.1 gx).1)
                  have HW := hide (show U.heap.size ≤ h by have h2 := unhide hg; have := (unhide G).size; omega)
                  have G := hide ((unhide G).trans (b6.mono (unhide G).size))
                  clear gx b6 hg
                  refine hK.out _ _ ?_ (fun hHeld => ?_)
                  · try dsimp only
                    first | exact ⟨⟨cell_later (unhide G) y0, cell_later (unhide G) y1⟩, cell_later (unhide G) q1⟩ | (have t0 := cell_later (unhide G) y0; have t1 := cell_later (unhide G) y1; have t2 := cell_later (unhide G) q1; exact ⟨⟨set2_cell t0 (by have := unhide HW; have := cell_lt y0; omega) _ _, set2_cell t1 (by have := unhide HW; have := cell_lt y0; omega) _ _⟩, set2_cell t2 (by have := unhide HW; have := cell_lt q1; omega) _ _⟩)
                  clear hK K
                  try simp only [Act.put, List.setIfInBounds_toArray, List.set_cons_zero, List.set_cons_succ]
                  refine wpAnyH_ready (rs := [13]) (by kernel_rfl) (by simp) ?_
                  refine AllReadyH.cons (o := { dst := none, op := Op.store 24 (Operand.tmp 9) (Operand.tmp 46), type := 0, pos := "law.go:120", after := #[{ on := 12, ground := Ground.data }, { on := 10, ground := Ground.data }, { on := 8, ground := Ground.chain }, { on := 0, ground := Ground.phase }, { on := 1, ground := Ground.phase }, { on := 2, ground := Ground.phase }, { on := 3, ground := Ground.phase }, { on := 4, ground := Ground.phase }, { on := 5, ground := Ground.phase }, { on := 6, ground := Ground.phase }, { on := 7, ground := Ground.phase }, { on := 8, ground := Ground.phase }, { on := 9, ground := Ground.phase }, { on := 10, ground := Ground.phase }, { on := 11, ground := Ground.textOnly Departure.lateStores }, { on := 12, ground := Ground.phase }], guard := none }) rfl (fun K hK => ?_) ?_
                  · have z0 := box_cell (unhide GX) 0 _ rfl
                    have z1 := box_cell (unhide GX) 1 _ rfl
                    have z2 := mbox_free (unhide GX) 0
                    have z3 := mbox_free (unhide GX) 1
                    go_simp
                    refine hK.out _ _ ?_ (fun hHeld => ?_)
                    · try dsimp only
                      first | exact ⟨⟨cell_later (unhide G) y0, cell_later (unhide G) y1⟩, cell_later (unhide G) q1⟩ | (have t0 := cell_later (unhide G) y0; have t1 := cell_later (unhide G) y1; have t2 := cell_later (unhide G) q1; exact ⟨⟨set2_cell t0 (by have := unhide HW; have := cell_lt y0; omega) _ _, set2_cell t1 (by have := unhide HW; have := cell_lt y0; omega) _ _⟩, set2_cell t2 (by have := unhide HW; have := cell_lt q1; omega) _ _⟩)
                    clear hK K
                    try simp only [Act.put, List.setIfInBounds_toArray, List.set_cons_zero, List.set_cons_succ]
                    refine held_take 14 (oi := { dst := some 10, op := Op.assign (Operand.tmp 47), type := 41, pos := "law.go:120", after := #[{ on := 11, ground := Ground.data }, { on := 13, ground := Ground.chain }, { on := 0, ground := Ground.phase }, { on := 1, ground := Ground.phase }, { on := 2, ground := Ground.phase }, { on := 3, ground := Ground.phase }, { on := 4, ground := Ground.phase }, { on := 5, ground := Ground.phase }, { on := 6, ground := Ground.phase }, { on := 7, ground := Ground.phase }, { on := 8, ground := Ground.phase }, { on := 9, ground := Ground.phase }, { on := 10, ground := Ground.phase }, { on := 11, ground := Ground.phase }, { on := 12, ground := Ground.phase }, { on := 13, ground := Ground.phase }], guard := none }) (v := ?_) (by kernel_rfl) rfl (by rfl) (by kernel_rfl) (by kernel_rfl) (fun _ _ _ h => h) ?_ (by assumption) ?_
                    rotate_left
                    · (intro w hSw; (try dsimp only at hSw); go_simp; try with_reducible rfl)
                    try simp only [Act.put, List.setIfInBounds_toArray, List.set_cons_zero, List.set_cons_succ]
                    refine wpAnyH_done (by kernel_rfl) ?_ _
                    obtain ⟨Y, x0, x1, gY, hY⟩ := two_sets (unhide GX) (.slice spC nC cC) (.slice spE nE cE)
                    rw [hY]
                    have AY := hide ((unhide AX).kept gY (unhide NE))
                    have FY := hide ((unhide G).grown gY (unhide G).size (fun b e => by have := Option.some.inj e; have := unhide HW; omega))
                    have EY := hide ((unhide EU).trans ((unhide FY).mono (unhide EU).size))
                    clear hY gY hHeld
                    rcases unhide AY with ⟨hne, he2⟩ | ⟨rfl, _, hnC, hnE, oC, oE⟩
                    · exfalso
                      rw [unhide UZ] at he2
                      exact hne he2
                    · rw [unhide UK] at hnC hnE oC oE
                      rw [unhide BV] at hnC oC
                      rw [unhide BL] at hnE oE
                      obtain rfl : nC = vn := hnC.symm.trans (unhide VN)
                      obtain rfl : nE = ln := hnE.symm.trans (unhide LN)
                      have IC := hide oC.ints
                      have IE := hide oE.ints
                      have XY := hide (later_block (unhide EY) (unhide X1))
                      have m0 := box_cell (unhide XY) 0 _ rfl
                      have m1 := box_cell (unhide XY) 1 _ rfl
                      have k0 := cell_later (unhide FY) y0
                      have k1 := cell_later (unhide FY) y1
                      have JA := hide ((unhide IA).later (unhide FY))
                      have JB := hide ((unhide IB).later (unhide FY))
                      clear hnC hnE oC oE AY AX GX y0 y1 q1 c0 c1 p0 p1
                      go_wp2_with fail
                      refine (same_calls (unhide IC) (unhide IE) ((unhide V).later (unhide EY)) ((unhide L).later (unhide EY)) nC nE nC nE (unhide VN) (unhide LN) (unhide VN) (unhide LN) hvx hlx hvx hlx).mono ?_
                      rw [show (decide (vs0 = vs0) && decide (ls0 = ls0)) = true by simp]
                      rintro e W7 ⟨rfl, b7⟩
                      have s0 := cell_later b7 k0
                      have s1 := cell_later b7 k1
                      have E7 := hide ((unhide EY).trans (b7.mono (unhide EY).size))
                      have KA := hide ((unhide JA).later b7)
                      have KB := hide ((unhide JB).later b7)
                      clear b7 k0 k1 m0 m1 x0 x1
                      go_wp2_with fail
                      refine (right_calls (unhide KA) (unhide KB) nA nB (unhide NA) (unhide NB) mA mB').mono ?_
                      rw [unhide RX]
                      rintro e W8 ⟨rfl, b8⟩
                      have r0 := cell_later b8 s0
                      have r1 := cell_later b8 s1
                      have E8 := hide ((unhide E7).trans (b8.mono (unhide E7).size))
                      have X8 := hide (later_block (unhide E8) (unhide X1))
                      have m0 := box_cell (unhide X8) 0 _ rfl
                      have m1 := box_cell (unhide X8) 1 _ rfl
                      obtain ⟨nl1, nl2⟩ := unhide NL
                      have nl3 : ¬ ((nA : Int) - (nC : Int) < -1) := by omega
                      have nl4 : ¬ (1 < (nA : Int) - (nC : Int)) := by omega
                      clear b8 s0 s1
                      simp only [maxLen] at mA hvx
                      go_wp2
                      exact ⟨⟨j + 1, by omega, by go_num, unhide E8⟩, by simp [intOf]; omega⟩
                  exact AllReadyH.nil
                exact AllReadyH.nil
              refine AllReadyH.cons (o := { dst := some 9, op := Op.alloc 24, type := 0, pos := "law.go:120", after := #[], guard := none }) rfl (fun K hK => ?_) ?_
              · refine step_alloc24 rfl rfl ?_
                intro h W6 hg gx b6
                (try have NE := hide (show ∀ b, er2 = 0 → (blk spC = some b ∨ blk spE = some b) → b ≠ h from fun b h0 hb => by have h1 := ((unhide AX).lt b h0 hb).2; have h2 := unhide hg; omega))
                (try have AX := hide ((unhide AX).later b6))
                have GX := hide gx
                have GL2 := hide (show h < W6.heap.size from (Array.getElem?_eq_some_iff.1 gx).1)
                have HW := hide (show U.heap.size ≤ h by have h2 := unhide hg; have := (unhide G).size; omega)
                have G := hide ((unhide G).trans (b6.mono (unhide G).size))
                clear gx b6 hg
                refine hK.out _ _ ?_ (fun hHeld => ?_)
                · try dsimp only
                  first | exact ⟨⟨cell_later (unhide G) y0, cell_later (unhide G) y1⟩, cell_later (unhide G) q1⟩ | (have t0 := cell_later (unhide G) y0; have t1 := cell_later (unhide G) y1; have t2 := cell_later (unhide G) q1; exact ⟨⟨set2_cell t0 (by have := unhide HW; have := cell_lt y0; omega) _ _, set2_cell t1 (by have := unhide HW; have := cell_lt y0; omega) _ _⟩, set2_cell t2 (by have := unhide HW; have := cell_lt q1; omega) _ _⟩)
                clear hK K
                try simp only [Act.put, List.setIfInBounds_toArray, List.set_cons_zero, List.set_cons_succ]
                refine wpAnyH_ready (rs := [8]) (by kernel_rfl) (by simp) ?_
                refine AllReadyH.cons (o := { dst := some 45, op := Op.call { callee := Callee.value (Operand.func 30), args := #[Operand.tmp 37, Operand.tmp 44], argTypes := #[24, 40] }, type := 42, pos := "law.go:120", after := #[{ on := 0, ground := Ground.data }, { on := 7, ground := Ground.data }], guard := none }) rfl (fun K hK => ?_) ?_
                · go_simp
                  refine (apply_calls ((unhide IA).later (unhide G)) ((unhide IB).later (unhide G)) nA nB (unhide NA) (unhide NB) mA mB' d' n1 (unhide N64)).mono ?_
                  rintro e W5 ⟨hres, b5⟩
                  obtain ⟨spC, nC, cC, spE, nE, cE, er2, rfl, ar⟩ := apply_open hres
                  clear hres
                  (try have NE := hide (show ∀ b, er2 = 0 → (blk spC = some b ∨ blk spE = some b) → b ≠ h from fun b h0 hb => by have h1 := (ar.lt b h0 hb).1; have h2 := unhide GL2; omega))
                  (try have GX := hide (later_block b5 (unhide GX)))
                  have G := hide ((unhide G).trans (b5.mono (unhide G).size))
                  have AX := hide ar
                  clear ar b5
                  go_wp2_with fail
                  refine hK.out _ _ ?_ (fun hHeld => ?_)
                  · try dsimp only
                    first | exact ⟨⟨cell_later (unhide G) y0, cell_later (unhide G) y1⟩, cell_later (unhide G) q1⟩ | (have t0 := cell_later (unhide G) y0; have t1 := cell_later (unhide G) y1; have t2 := cell_later (unhide G) q1; exact ⟨⟨set2_cell t0 (by have := unhide HW; have := cell_lt y0; omega) _ _, set2_cell t1 (by have := unhide HW; have := cell_lt y0; omega) _ _⟩, set2_cell t2 (by have := unhide HW; have := cell_lt q1; omega) _ _⟩)
                  clear hK K
                  try simp only [Act.put, List.setIfInBounds_toArray, List.set_cons_zero, List.set_cons_succ]
                  refine held_take 9 (oi := { dst := some 36, op := Op.move (Operand.tmp 45), type := 42, pos := "law.go:120", after := #[{ on := 8, ground := Ground.data }], guard := none }) (v := ?_) (by kernel_rfl) rfl (by rfl) (by kernel_rfl) (by kernel_rfl) (fun _ _ _ h => h) ?_ (by assumption) ?_
                  rotate_left
                  · (intro w hSw; (try dsimp only at hSw); go_simp; try with_reducible rfl)
                  try simp only [Act.put, List.setIfInBounds_toArray, List.set_cons_zero, List.set_cons_succ]
                  refine held_take 10 (oi := { dst := some 46, op := Op.extract (Operand.tmp 36) 0, type := 24, pos := "law.go:120", after := #[{ on := 9, ground := Ground.data }], guard := none }) (v := ?_) (by kernel_rfl) rfl (by rfl) (by kernel_rfl) (by kernel_rfl) (fun _ _ _ h => h) ?_ (by assumption) ?_
                  rotate_left
                  · (intro w hSw; (try dsimp only at hSw); go_simp; try with_reducible rfl)
                  try simp only [Act.put, List.setIfInBounds_toArray, List.set_cons_zero, List.set_cons_succ]
                  refine held_take 11 (oi := { dst := some 47, op := Op.extract (Operand.tmp 36) 1, type := 41, pos := "law.go:120", after := #[{ on := 9, ground := Ground.data }, { on := 13, ground := Ground.gcOnly Departure.lateStores }], guard := none }) (v := ?_) (by kernel_rfl) rfl (by rfl) (by kernel_rfl) (by kernel_rfl) (fun _ _ _ h => h) ?_ (by assumption) ?_
                  rotate_left
                  · (intro w hSw; (try dsimp only at hSw); go_simp; try with_reducible rfl)
                  try simp only [Act.put, List.setIfInBounds_toArray, List.set_cons_zero, List.set_cons_succ]
                  refine wpAnyH_ready (rs := [13]) (by kernel_rfl) (by simp) ?_
                  refine AllReadyH.cons (o := { dst := none, op := Op.store 24 (Operand.tmp 9) (Operand.tmp 46), type := 0, pos := "law.go:120", after := #[{ on := 12, ground := Ground.data }, { on := 10, ground := Ground.data }, { on := 8, ground := Ground.chain }, { on := 0, ground := Ground.phase }, { on := 1, ground := Ground.phase }, { on := 2, ground := Ground.phase }, { on := 3, ground := Ground.phase }, { on := 4, ground := Ground.phase }, { on := 5, ground := Ground.phase }, { on := 6, ground := Ground.phase }, { on := 7, ground := Ground.phase }, { on := 8, ground := Ground.phase }, { on := 9, ground := Ground.phase }, { on := 10, ground := Ground.phase }, { on := 11, ground := Ground.textOnly Departure.lateStores }, { on := 12, ground := Ground.phase }], guard := none }) rfl (fun K hK => ?_) ?_
                  · have z0 := box_cell (unhide GX) 0 _ rfl
                    have z1 := box_cell (unhide GX) 1 _ rfl
                    have z2 := mbox_free (unhide GX) 0
                    have z3 := mbox_free (unhide GX) 1
                    go_simp
                    refine hK.out _ _ ?_ (fun hHeld => ?_)
                    · try dsimp only
                      first | exact ⟨⟨cell_later (unhide G) y0, cell_later (unhide G) y1⟩, cell_later (unhide G) q1⟩ | (have t0 := cell_later (unhide G) y0; have t1 := cell_later (unhide G) y1; have t2 := cell_later (unhide G) q1; exact ⟨⟨set2_cell t0 (by have := unhide HW; have := cell_lt y0; omega) _ _, set2_cell t1 (by have := unhide HW; have := cell_lt y0; omega) _ _⟩, set2_cell t2 (by have := unhide HW; have := cell_lt q1; omega) _ _⟩)
                    clear hK K
                    try simp only [Act.put, List.setIfInBounds_toArray, List.set_cons_zero, List.set_cons_succ]
                    refine held_take 14 (oi := { dst := some 10, op := Op.assign (Operand.tmp 47), type := 41, pos := "law.go:120", after := #[{ on := 11, ground := Ground.data }, { on := 13, ground := Ground.chain }, { on := 0, ground := Ground.phase }, { on := 1, ground := Ground.phase }, { on := 2, ground := Ground.phase }, { on := 3, ground := Ground.phase }, { on := 4, ground := Ground.phase }, { on := 5, ground := Ground.phase }, { on := 6, ground := Ground.phase }, { on := 7, ground := Ground.phase }, { on := 8, ground := Ground.phase }, { on := 9, ground := Ground.phase }, { on := 10, ground := Ground.phase }, { on := 11, ground := Ground.phase }, { on := 12, ground := Ground.phase }, { on := 13, ground := Ground.phase }], guard := none }) (v := ?_) (by kernel_rfl) rfl (by rfl) (by kernel_rfl) (by kernel_rfl) (fun _ _ _ h => h) ?_ (by assumption) ?_
                    rotate_left
                    · (intro w hSw; (try dsimp only at hSw); go_simp; try with_reducible rfl)
                    try simp only [Act.put, List.setIfInBounds_toArray, List.set_cons_zero, List.set_cons_succ]
                    refine wpAnyH_done (by kernel_rfl) ?_ _
                    obtain ⟨Y, x0, x1, gY, hY⟩ := two_sets (unhide GX) (.slice spC nC cC) (.slice spE nE cE)
                    rw [hY]
                    have AY := hide ((unhide AX).kept gY (unhide NE))
                    have FY := hide ((unhide G).grown gY (unhide G).size (fun b e => by have := Option.some.inj e; have := unhide HW; omega))
                    have EY := hide ((unhide EU).trans ((unhide FY).mono (unhide EU).size))
                    clear hY gY hHeld
                    rcases unhide AY with ⟨hne, he2⟩ | ⟨rfl, _, hnC, hnE, oC, oE⟩
                    · exfalso
                      rw [unhide UZ] at he2
                      exact hne he2
                    · rw [unhide UK] at hnC hnE oC oE
                      rw [unhide BV] at hnC oC
                      rw [unhide BL] at hnE oE
                      obtain rfl : nC = vn := hnC.symm.trans (unhide VN)
                      obtain rfl : nE = ln := hnE.symm.trans (unhide LN)
                      have IC := hide oC.ints
                      have IE := hide oE.ints
                      have XY := hide (later_block (unhide EY) (unhide X1))
                      have m0 := box_cell (unhide XY) 0 _ rfl
                      have m1 := box_cell (unhide XY) 1 _ rfl
                      have k0 := cell_later (unhide FY) y0
                      have k1 := cell_later (unhide FY) y1
                      have JA := hide ((unhide IA).later (unhide FY))
                      have JB := hide ((unhide IB).later (unhide FY))
                      clear hnC hnE oC oE AY AX GX y0 y1 q1 c0 c1 p0 p1
                      go_wp2_with fail
                      refine (same_calls (unhide IC) (unhide IE) ((unhide V).later (unhide EY)) ((unhide L).later (unhide EY)) nC nE nC nE (unhide VN) (unhide LN) (unhide VN) (unhide LN) hvx hlx hvx hlx).mono ?_
                      rw [show (decide (vs0 = vs0) && decide (ls0 = ls0)) = true by simp]
                      rintro e W7 ⟨rfl, b7⟩
                      have s0 := cell_later b7 k0
                      have s1 := cell_later b7 k1
                      have E7 := hide ((unhide EY).trans (b7.mono (unhide EY).size))
                      have KA := hide ((unhide JA).later b7)
                      have KB := hide ((unhide JB).later b7)
                      clear b7 k0 k1 m0 m1 x0 x1
                      go_wp2_with fail
                      refine (right_calls (unhide KA) (unhide KB) nA nB (unhide NA) (unhide NB) mA mB').mono ?_
                      rw [unhide RX]
                      rintro e W8 ⟨rfl, b8⟩
                      have r0 := cell_later b8 s0
                      have r1 := cell_later b8 s1
                      have E8 := hide ((unhide E7).trans (b8.mono (unhide E7).size))
                      have X8 := hide (later_block (unhide E8) (unhide X1))
                      have m0 := box_cell (unhide X8) 0 _ rfl
                      have m1 := box_cell (unhide X8) 1 _ rfl
                      obtain ⟨nl1, nl2⟩ := unhide NL
                      have nl3 : ¬ ((nA : Int) - (nC : Int) < -1) := by omega
                      have nl4 : ¬ (1 < (nA : Int) - (nC : Int)) := by omega
                      clear b8 s0 s1
                      simp only [maxLen] at mA hvx
                      go_wp2
                      exact ⟨⟨j + 1, by omega, by go_num, unhide E8⟩, by simp [intOf]; omega⟩
                  exact AllReadyH.nil
                exact AllReadyH.nil
              exact AllReadyH.nil
          exact AllReadyH.nil
        exact AllReadyH.nil
      refine AllReadyH.cons (o := { dst := some 7, op := Op.alloc 24, type := 0, pos := "law.go:116", after := #[], guard := none }) rfl (fun K hK => ?_) ?_
      · refine step_alloc24 rfl rfl ?_
        intro g W4 hg gx b4
        (try have NE := hide (show ∀ b, er = 0 → (blk spA = some b ∨ blk spB = some b) → b ≠ g from fun b h0 hb => by have h1 := ((unhide AX).lt b h0 hb).2; have h2 := unhide hg; omega))
        (try have AX := hide ((unhide AX).later b4))
        have GX := hide gx
        have GL := hide (show g < W4.heap.size from (Array.getElem?_eq_some_iff.1 gx).1)
        have GW := hide (show wr.heap.size ≤ g by have h2 := unhide hg; have := (unhide F).size; omega)
        have F := hide ((unhide F).trans (b4.mono (unhide F).size))
        clear gx b4 hg
        refine hK.out _ _ ?_ (fun hHeld => ?_)
        · try dsimp only
          first | exact ⟨⟨cell_later (unhide F) c0, cell_later (unhide F) c1⟩, cell_later (unhide F) p0⟩ | (have t0 := cell_later (unhide F) c0; have t1 := cell_later (unhide F) c1; have t2 := cell_later (unhide F) p0; have u0 := cell_lt t0; exact ⟨⟨set2_cell t0 (by have := unhide GW; have := cell_lt c0; omega) _ _, set2_cell t1 (by have := unhide GW; have := cell_lt c0; omega) _ _⟩, set2_cell t2 (by have := unhide GW; have := cell_lt p0; omega) _ _⟩)
        clear hK K
        try simp only [Act.put, List.setIfInBounds_toArray, List.set_cons_zero, List.set_cons_succ]
        refine wpAnyH_ready (rs := [8]) (by kernel_rfl) (by simp) ?_
        refine AllReadyH.cons (o := { dst := some 31, op := Op.call { callee := Callee.value (Operand.func 30), args := #[Operand.tmp 23, Operand.tmp 30], argTypes := #[24, 40] }, type := 42, pos := "law.go:116", after := #[{ on := 0, ground := Ground.data }, { on := 7, ground := Ground.data }], guard := none }) rfl (fun K hK => ?_) ?_
        · go_simp
          refine (apply_calls ((unhide VW).later (unhide F)) ((unhide LW).later (unhide F)) vn ln (unhide VN) (unhide LN) hvx hlx d n1 (unhide N64)).mono ?_
          rintro e W3 ⟨hres, b3⟩
          obtain ⟨spA, nA, cA, spB, nB, cB', er, rfl, ar⟩ := apply_open hres
          clear hres
          (try have NE := hide (show ∀ b, er = 0 → (blk spA = some b ∨ blk spB = some b) → b ≠ g from fun b h0 hb => by have h1 := (ar.lt b h0 hb).1; have h2 := unhide GL; omega))
          (try have GX := hide (later_block b3 (unhide GX)))
          have F := hide ((unhide F).trans (b3.mono (unhide F).size))
          have AX := hide (ar.mono (unhide (by assumption : Hid (Below wr.heap.size wr _))).size)
          clear ar b3
          go_wp2_with fail
          refine hK.out _ _ ?_ (fun hHeld => ?_)
          · try dsimp only
            first | exact ⟨⟨cell_later (unhide F) c0, cell_later (unhide F) c1⟩, cell_later (unhide F) p0⟩ | (have t0 := cell_later (unhide F) c0; have t1 := cell_later (unhide F) c1; have t2 := cell_later (unhide F) p0; have u0 := cell_lt t0; exact ⟨⟨set2_cell t0 (by have := unhide GW; have := cell_lt c0; omega) _ _, set2_cell t1 (by have := unhide GW; have := cell_lt c0; omega) _ _⟩, set2_cell t2 (by have := unhide GW; have := cell_lt p0; omega) _ _⟩)
          clear hK K
          try simp only [Act.put, List.setIfInBounds_toArray, List.set_cons_zero, List.set_cons_succ]
          refine held_take 9 (oi := { dst := some 22, op := Op.move (Operand.tmp 31), type := 42, pos := "law.go:116", after := #[{ on := 8, ground := Ground.data }], guard := none }) (v := ?_) (by kernel_rfl) rfl (by rfl) (by kernel_rfl) (by kernel_rfl) (fun _ _ _ h => h) ?_ (by assumption) ?_
          rotate_left
          · (intro w hSw; (try dsimp only at hSw); go_simp; try with_reducible rfl)
          try simp only [Act.put, List.setIfInBounds_toArray, List.set_cons_zero, List.set_cons_succ]
          refine held_take 10 (oi := { dst := some 32, op := Op.extract (Operand.tmp 22) 0, type := 24, pos := "law.go:116", after := #[{ on := 9, ground := Ground.data }], guard := none }) (v := ?_) (by kernel_rfl) rfl (by rfl) (by kernel_rfl) (by kernel_rfl) (fun _ _ _ h => h) ?_ (by assumption) ?_
          rotate_left
          · (intro w hSw; (try dsimp only at hSw); go_simp; try with_reducible rfl)
          try simp only [Act.put, List.setIfInBounds_toArray, List.set_cons_zero, List.set_cons_succ]
          refine held_take 11 (oi := { dst := some 33, op := Op.extract (Operand.tmp 22) 1, type := 41, pos := "law.go:116", after := #[{ on := 9, ground := Ground.data }, { on := 13, ground := Ground.gcOnly Departure.lateStores }], guard := none }) (v := ?_) (by kernel_rfl) rfl (by rfl) (by kernel_rfl) (by kernel_rfl) (fun _ _ _ h => h) ?_ (by assumption) ?_
          rotate_left
          · (intro w hSw; (try dsimp only at hSw); go_simp; try with_reducible rfl)
          try simp only [Act.put, List.setIfInBounds_toArray, List.set_cons_zero, List.set_cons_succ]
          refine wpAnyH_ready (rs := [13]) (by kernel_rfl) (by simp) ?_
          refine AllReadyH.cons (o := { dst := none, op := Op.store 24 (Operand.tmp 7) (Operand.tmp 32), type := 0, pos := "law.go:116", after := #[{ on := 12, ground := Ground.data }, { on := 10, ground := Ground.data }, { on := 8, ground := Ground.chain }, { on := 0, ground := Ground.phase }, { on := 1, ground := Ground.phase }, { on := 2, ground := Ground.phase }, { on := 3, ground := Ground.phase }, { on := 4, ground := Ground.phase }, { on := 5, ground := Ground.phase }, { on := 6, ground := Ground.phase }, { on := 7, ground := Ground.phase }, { on := 8, ground := Ground.phase }, { on := 9, ground := Ground.phase }, { on := 10, ground := Ground.phase }, { on := 11, ground := Ground.textOnly Departure.lateStores }, { on := 12, ground := Ground.phase }], guard := none }) rfl (fun K hK => ?_) ?_
          · have z0 := box_cell (unhide GX) 0 _ rfl
            have z1 := box_cell (unhide GX) 1 _ rfl
            have z2 := mbox_free (unhide GX) 0
            have z3 := mbox_free (unhide GX) 1
            go_simp
            refine hK.out _ _ ?_ (fun hHeld => ?_)
            · try dsimp only
              first | exact ⟨⟨cell_later (unhide F) c0, cell_later (unhide F) c1⟩, cell_later (unhide F) p0⟩ | (have t0 := cell_later (unhide F) c0; have t1 := cell_later (unhide F) c1; have t2 := cell_later (unhide F) p0; have u0 := cell_lt t0; exact ⟨⟨set2_cell t0 (by have := unhide GW; have := cell_lt c0; omega) _ _, set2_cell t1 (by have := unhide GW; have := cell_lt c0; omega) _ _⟩, set2_cell t2 (by have := unhide GW; have := cell_lt p0; omega) _ _⟩)
            clear hK K
            try simp only [Act.put, List.setIfInBounds_toArray, List.set_cons_zero, List.set_cons_succ]
            refine held_take 14 (oi := { dst := some 8, op := Op.assign (Operand.tmp 33), type := 41, pos := "law.go:116", after := #[{ on := 11, ground := Ground.data }, { on := 13, ground := Ground.chain }, { on := 0, ground := Ground.phase }, { on := 1, ground := Ground.phase }, { on := 2, ground := Ground.phase }, { on := 3, ground := Ground.phase }, { on := 4, ground := Ground.phase }, { on := 5, ground := Ground.phase }, { on := 6, ground := Ground.phase }, { on := 7, ground := Ground.phase }, { on := 8, ground := Ground.phase }, { on := 9, ground := Ground.phase }, { on := 10, ground := Ground.phase }, { on := 11, ground := Ground.phase }, { on := 12, ground := Ground.phase }, { on := 13, ground := Ground.phase }], guard := none }) (v := ?_) (by kernel_rfl) rfl (by rfl) (by kernel_rfl) (by kernel_rfl) (fun _ _ _ h => h) ?_ (by assumption) ?_
            rotate_left
            · (intro w hSw; (try dsimp only at hSw); go_simp; try with_reducible rfl)
            try simp only [Act.put, List.setIfInBounds_toArray, List.set_cons_zero, List.set_cons_succ]
            refine wpAnyH_done (by kernel_rfl) ?_ _
            obtain ⟨U, y0, y1, gU, hU⟩ := two_sets (unhide GX) (.slice spA nA cA) (.slice spB nB cB')
            rw [hU]
            have AU := hide ((unhide AX).kept gU (unhide NE))
            have FU := hide ((unhide F).grown gU (unhide F).size (fun b e => by have := Option.some.inj e; have := unhide GW; omega))
            have EU := hide ((unhide F0).trans ((unhide FU).mono (unhide F0).size))
            clear hU gU hHeld
            rcases unhide AU with ⟨hne, _⟩ | ⟨rfl, hz, hnA, hnB, oA, oB⟩
            · go_wp2
              exact ⟨⟨j + 1, by omega, by go_num, unhide EU⟩, by simp [intOf]; omega⟩
            · obtain ⟨uz, uk⟩ := undo_pure hz (unhide DD)
              obtain ⟨hr, hm, ht⟩ := apply_zero hz
              have hn19 := (may_parts hm).2
              have hr' := right_to (voters_some hr hn19 ht)
              have hbv := back_voters (n := n1) hr (turned_three (kindM vs0 ls0 n1) d vs0.length)
              have hbl := back_learners (n := n1) hr (turned_three (kindM vs0 ls0 n1) d vs0.length)
              have hnl := near_len (n := n1) (k := (turnedM (kindM vs0 ls0 n1) d vs0.length).1) hr
              have l1 := voters_len (v := vs0) (l := ls0) (n := n1) (k := (turnedM (kindM vs0 ls0 n1) d vs0.length).1)
              have l2 := learners_len (v := vs0) (l := ls0) (n := n1) (k := (turnedM (kindM vs0 ls0 n1) d vs0.length).1)
              generalize votersTo vs0 ls0 n1 (turnedM (kindM vs0 ls0 n1) d vs0.length).1 = v' at *
              generalize learnersTo vs0 ls0 n1 (turnedM (kindM vs0 ls0 n1) d vs0.length).1 = l' at *
              have mA : nA ≤ maxLen := by simp only [maxLen]; omega
              have mB' : nB ≤ maxLen := by simp only [maxLen]; omega
              have NA := hide hnA
              have NB := hide hnB
              have IA := hide oA.ints
              have IB := hide oB.ints
              have UZ := hide uz
              have UK := hide uk
              have BV := hide hbv
              have BL := hide hbl
              have RX := hide hr'
              have NL := hide (show (nA : Int) - (vn : Int) ≤ 1 ∧ -1 ≤ (nA : Int) - (vn : Int) by have := unhide VN; omega)
              have CU := hide (later_block (unhide EU) (unhide C1))
              have q1 : U.cell? ⟨D + 1, j * 2 + 1, none⟩ = some (.int .i64 d') := cell_later (unhide FU) p1
              clear hnA hnB oA oB uz uk hbv hbl hr' hnl l1 l2 hr hm ht hz hn19 AU AX NE GX
              have G := hide (show Below U.heap.size U U.drew from (Below.refl _ _).drew)
              go_wp2_with fail
              refine wp_region_held_drew (S := fun w' => (w'.cell? ⟨g, 0, none⟩ = some (.slice spA nA cA) ∧ w'.cell? ⟨g, 1, none⟩ = some (.slice spB nB cB')) ∧ w'.cell? ⟨D + 1, j * 2 + 1, none⟩ = some (.int .i64 d')) (by kernel_rfl) ?_ (fun hHeld => ?_)
              · try dsimp only
                first | exact ⟨⟨cell_later (unhide G) y0, cell_later (unhide G) y1⟩, cell_later (unhide G) q1⟩ | (have t0 := cell_later (unhide G) y0; have t1 := cell_later (unhide G) y1; have t2 := cell_later (unhide G) q1; exact ⟨⟨set2_cell t0 (by have := unhide HW; have := cell_lt y0; omega) _ _, set2_cell t1 (by have := unhide HW; have := cell_lt y0; omega) _ _⟩, set2_cell t2 (by have := unhide HW; have := cell_lt q1; omega) _ _⟩)
              refine held_take 0 (oi := { dst := some 37, op := Op.load 24 (Operand.tmp 7), type := 24, pos := "law.go:120", after := #[], guard := none }) (v := ?_) (by kernel_rfl) rfl (by rfl) (by kernel_rfl) (by kernel_rfl) (fun _ _ _ h => h) ?_ (by assumption) ?_
              rotate_left
              · (intro w hSw; (try dsimp only at hSw); go_simp; try with_reducible rfl)
              try simp only [Act.put, List.setIfInBounds_toArray, List.set_cons_zero, List.set_cons_succ]
              refine held_take 1 (oi := { dst := some 38, op := Op.move (Operand.tmp 5), type := 51, pos := "law.go:120", after := #[], guard := none }) (v := ?_) (by kernel_rfl) rfl (by rfl) (by kernel_rfl) (by kernel_rfl) (fun _ _ _ h => h) ?_ (by assumption) ?_
              rotate_left
              · (intro w hSw; (try dsimp only at hSw); go_simp; try with_reducible rfl)
              try simp only [Act.put, List.setIfInBounds_toArray, List.set_cons_zero, List.set_cons_succ]
              refine held_take 2 (oi := { dst := some 39, op := Op.move (Operand.tmp 6), type := 3, pos := "law.go:120", after := #[], guard := none }) (v := ?_) (by kernel_rfl) rfl (by rfl) (by kernel_rfl) (by kernel_rfl) (fun _ _ _ h => h) ?_ (by assumption) ?_
              rotate_left
              · (intro w hSw; (try dsimp only at hSw); go_simp; try with_reducible rfl)
              try simp only [Act.put, List.setIfInBounds_toArray, List.set_cons_zero, List.set_cons_succ]
              refine held_take 3 (oi := { dst := some 40, op := Op.indexAddr 51 (Operand.tmp 38) (Operand.tmp 39), type := 0, pos := "law.go:120", after := #[{ on := 1, ground := Ground.data }, { on := 2, ground := Ground.data }], guard := none }) (v := ?_) (by kernel_rfl) rfl (by rfl) (by kernel_rfl) (by kernel_rfl) (fun _ _ _ h => h) ?_ (by assumption) ?_
              rotate_left
              · (intro w hSw; (try dsimp only at hSw); go_simp; try with_reducible rfl)
              try simp only [Act.put, List.setIfInBounds_toArray, List.set_cons_zero, List.set_cons_succ]
              refine held_take 4 (oi := { dst := some 41, op := Op.indexAddr 50 (Operand.tmp 40) (Operand.const (Value.int IntKind.i64 1)), type := 0, pos := "law.go:120", after := #[{ on := 3, ground := Ground.data }], guard := none }) (v := ?_) (by kernel_rfl) rfl (by rfl) (by kernel_rfl) (by kernel_rfl) (fun _ _ _ h => h) ?_ (by assumption) ?_
              rotate_left
              · (intro w hSw; (try dsimp only at hSw); go_simp; try with_reducible rfl)
              try simp only [Act.put, List.setIfInBounds_toArray, List.set_cons_zero, List.set_cons_succ]
              refine held_take 5 (oi := { dst := some 42, op := Op.load 38 (Operand.tmp 41), type := 38, pos := "law.go:120", after := #[{ on := 4, ground := Ground.data }], guard := none }) (v := ?_) (by kernel_rfl) rfl (by rfl) (by kernel_rfl) (by kernel_rfl) (fun _ _ _ h => h) ?_ (by assumption) ?_
              rotate_left
              · (intro w hSw; (try dsimp only at hSw); go_simp; try with_reducible rfl)
              try simp only [Act.put, List.setIfInBounds_toArray, List.set_cons_zero, List.set_cons_succ]
              refine held_take 6 (oi := { dst := some 43, op := Op.move (Operand.tmp 1), type := 3, pos := "law.go:120", after := #[], guard := none }) (v := ?_) (by kernel_rfl) rfl (by rfl) (by kernel_rfl) (by kernel_rfl) (fun _ _ _ h => h) ?_ (by assumption) ?_
              rotate_left
              · (intro w hSw; (try dsimp only at hSw); go_simp; try with_reducible rfl)
              try simp only [Act.put, List.setIfInBounds_toArray, List.set_cons_zero, List.set_cons_succ]
              refine held_take 7 (oi := { dst := some 44, op := Op.build 40 #[(0, Operand.tmp 42), (1, Operand.tmp 43)], type := 40, pos := "law.go:120", after := #[{ on := 5, ground := Ground.data }, { on := 6, ground := Ground.data }], guard := none }) (v := ?_) (by kernel_rfl) rfl (by rfl) (by kernel_rfl) (by kernel_rfl) (fun _ _ _ h => h) ?_ (by assumption) ?_
              rotate_left
              · (intro w hSw; (try dsimp only at hSw); go_simp; try with_reducible rfl)
              try simp only [Act.put, List.setIfInBounds_toArray, List.set_cons_zero, List.set_cons_succ]
              refine wpAnyH_ready (rs := [8, 12]) (by kernel_rfl) (by simp) ?_
              refine AllReadyH.cons (o := { dst := some 45, op := Op.call { callee := Callee.value (Operand.func 30), args := #[Operand.tmp 37, Operand.tmp 44], argTypes := #[24, 40] }, type := 42, pos := "law.go:120", after := #[{ on := 0, ground := Ground.data }, { on := 7, ground := Ground.data }], guard := none }) rfl (fun K hK => ?_) ?_
              · go_simp
                refine (apply_calls ((unhide IA).later (unhide G)) ((unhide IB).later (unhide G)) nA nB (unhide NA) (unhide NB) mA mB' d' n1 (unhide N64)).mono ?_
                rintro e W5 ⟨hres, b5⟩
                obtain ⟨spC, nC, cC, spE, nE, cE, er2, rfl, ar⟩ := apply_open hres
                clear hres
                (try have NE := hide (show ∀ b, er2 = 0 → (blk spC = some b ∨ blk spE = some b) → b ≠ h from fun b h0 hb => by have h1 := (ar.lt b h0 hb).1; have h2 := unhide GL2; omega))
                (try have GX := hide (later_block b5 (unhide GX)))
                have G := hide ((unhide G).trans (b5.mono (unhide G).size))
                have AX := hide ar
                clear ar b5
                go_wp2_with fail
                refine hK.out _ _ ?_ (fun hHeld => ?_)
                · try dsimp only
                  first | exact ⟨⟨cell_later (unhide G) y0, cell_later (unhide G) y1⟩, cell_later (unhide G) q1⟩ | (have t0 := cell_later (unhide G) y0; have t1 := cell_later (unhide G) y1; have t2 := cell_later (unhide G) q1; exact ⟨⟨set2_cell t0 (by have := unhide HW; have := cell_lt y0; omega) _ _, set2_cell t1 (by have := unhide HW; have := cell_lt y0; omega) _ _⟩, set2_cell t2 (by have := unhide HW; have := cell_lt q1; omega) _ _⟩)
                clear hK K
                try simp only [Act.put, List.setIfInBounds_toArray, List.set_cons_zero, List.set_cons_succ]
                refine held_take 9 (oi := { dst := some 36, op := Op.move (Operand.tmp 45), type := 42, pos := "law.go:120", after := #[{ on := 8, ground := Ground.data }], guard := none }) (v := ?_) (by kernel_rfl) rfl (by rfl) (by kernel_rfl) (by kernel_rfl) (fun _ _ _ h => h) ?_ (by assumption) ?_
                rotate_left
                · (intro w hSw; (try dsimp only at hSw); go_simp; try with_reducible rfl)
                try simp only [Act.put, List.setIfInBounds_toArray, List.set_cons_zero, List.set_cons_succ]
                refine held_take 10 (oi := { dst := some 46, op := Op.extract (Operand.tmp 36) 0, type := 24, pos := "law.go:120", after := #[{ on := 9, ground := Ground.data }], guard := none }) (v := ?_) (by kernel_rfl) rfl (by rfl) (by kernel_rfl) (by kernel_rfl) (fun _ _ _ h => h) ?_ (by assumption) ?_
                rotate_left
                · (intro w hSw; (try dsimp only at hSw); go_simp; try with_reducible rfl)
                try simp only [Act.put, List.setIfInBounds_toArray, List.set_cons_zero, List.set_cons_succ]
                refine held_take 11 (oi := { dst := some 47, op := Op.extract (Operand.tmp 36) 1, type := 41, pos := "law.go:120", after := #[{ on := 9, ground := Ground.data }, { on := 13, ground := Ground.gcOnly Departure.lateStores }], guard := none }) (v := ?_) (by kernel_rfl) rfl (by rfl) (by kernel_rfl) (by kernel_rfl) (fun _ _ _ h => h) ?_ (by assumption) ?_
                rotate_left
                · (intro w hSw; (try dsimp only at hSw); go_simp; try with_reducible rfl)
                try simp only [Act.put, List.setIfInBounds_toArray, List.set_cons_zero, List.set_cons_succ]
                refine wpAnyH_ready (rs := [12]) (by kernel_rfl) (by simp) ?_
                refine AllReadyH.cons (o := { dst := some 9, op := Op.alloc 24, type := 0, pos := "law.go:120", after := #[], guard := none }) rfl (fun K hK => ?_) ?_
                · refine step_alloc24 rfl rfl ?_
                  intro h W6 hg gx b6
                  (try have NE := hide (show ∀ b, er2 = 0 → (blk spC = some b ∨ blk spE = some b) → b ≠ h from fun b h0 hb => by have h1 := ((unhide AX).lt b h0 hb).2; have h2 := unhide hg; omega))
                  (try have AX := hide ((unhide AX).later b6))
                  have GX := hide gx
                  have GL2 := hide (show h < W6.heap.size from (Array.getElem?_eq_some_iff.1 gx).1)
                  have HW := hide (show U.heap.size ≤ h by have h2 := unhide hg; have := (unhide G).size; omega)
                  have G := hide ((unhide G).trans (b6.mono (unhide G).size))
                  clear gx b6 hg
                  refine hK.out _ _ ?_ (fun hHeld => ?_)
                  · try dsimp only
                    first | exact ⟨⟨cell_later (unhide G) y0, cell_later (unhide G) y1⟩, cell_later (unhide G) q1⟩ | (have t0 := cell_later (unhide G) y0; have t1 := cell_later (unhide G) y1; have t2 := cell_later (unhide G) q1; exact ⟨⟨set2_cell t0 (by have := unhide HW; have := cell_lt y0; omega) _ _, set2_cell t1 (by have := unhide HW; have := cell_lt y0; omega) _ _⟩, set2_cell t2 (by have := unhide HW; have := cell_lt q1; omega) _ _⟩)
                  clear hK K
                  try simp only [Act.put, List.setIfInBounds_toArray, List.set_cons_zero, List.set_cons_succ]
                  refine wpAnyH_ready (rs := [13]) (by kernel_rfl) (by simp) ?_
                  refine AllReadyH.cons (o := { dst := none, op := Op.store 24 (Operand.tmp 9) (Operand.tmp 46), type := 0, pos := "law.go:120", after := #[{ on := 12, ground := Ground.data }, { on := 10, ground := Ground.data }, { on := 8, ground := Ground.chain }, { on := 0, ground := Ground.phase }, { on := 1, ground := Ground.phase }, { on := 2, ground := Ground.phase }, { on := 3, ground := Ground.phase }, { on := 4, ground := Ground.phase }, { on := 5, ground := Ground.phase }, { on := 6, ground := Ground.phase }, { on := 7, ground := Ground.phase }, { on := 8, ground := Ground.phase }, { on := 9, ground := Ground.phase }, { on := 10, ground := Ground.phase }, { on := 11, ground := Ground.textOnly Departure.lateStores }, { on := 12, ground := Ground.phase }], guard := none }) rfl (fun K hK => ?_) ?_
                  · have z0 := box_cell (unhide GX) 0 _ rfl
                    have z1 := box_cell (unhide GX) 1 _ rfl
                    have z2 := mbox_free (unhide GX) 0
                    have z3 := mbox_free (unhide GX) 1
                    go_simp
                    refine hK.out _ _ ?_ (fun hHeld => ?_)
                    · try dsimp only
                      first | exact ⟨⟨cell_later (unhide G) y0, cell_later (unhide G) y1⟩, cell_later (unhide G) q1⟩ | (have t0 := cell_later (unhide G) y0; have t1 := cell_later (unhide G) y1; have t2 := cell_later (unhide G) q1; exact ⟨⟨set2_cell t0 (by have := unhide HW; have := cell_lt y0; omega) _ _, set2_cell t1 (by have := unhide HW; have := cell_lt y0; omega) _ _⟩, set2_cell t2 (by have := unhide HW; have := cell_lt q1; omega) _ _⟩)
                    clear hK K
                    try simp only [Act.put, List.setIfInBounds_toArray, List.set_cons_zero, List.set_cons_succ]
                    refine held_take 14 (oi := { dst := some 10, op := Op.assign (Operand.tmp 47), type := 41, pos := "law.go:120", after := #[{ on := 11, ground := Ground.data }, { on := 13, ground := Ground.chain }, { on := 0, ground := Ground.phase }, { on := 1, ground := Ground.phase }, { on := 2, ground := Ground.phase }, { on := 3, ground := Ground.phase }, { on := 4, ground := Ground.phase }, { on := 5, ground := Ground.phase }, { on := 6, ground := Ground.phase }, { on := 7, ground := Ground.phase }, { on := 8, ground := Ground.phase }, { on := 9, ground := Ground.phase }, { on := 10, ground := Ground.phase }, { on := 11, ground := Ground.phase }, { on := 12, ground := Ground.phase }, { on := 13, ground := Ground.phase }], guard := none }) (v := ?_) (by kernel_rfl) rfl (by rfl) (by kernel_rfl) (by kernel_rfl) (fun _ _ _ h => h) ?_ (by assumption) ?_
                    rotate_left
                    · (intro w hSw; (try dsimp only at hSw); go_simp; try with_reducible rfl)
                    try simp only [Act.put, List.setIfInBounds_toArray, List.set_cons_zero, List.set_cons_succ]
                    refine wpAnyH_done (by kernel_rfl) ?_ _
                    obtain ⟨Y, x0, x1, gY, hY⟩ := two_sets (unhide GX) (.slice spC nC cC) (.slice spE nE cE)
                    rw [hY]
                    have AY := hide ((unhide AX).kept gY (unhide NE))
                    have FY := hide ((unhide G).grown gY (unhide G).size (fun b e => by have := Option.some.inj e; have := unhide HW; omega))
                    have EY := hide ((unhide EU).trans ((unhide FY).mono (unhide EU).size))
                    clear hY gY hHeld
                    rcases unhide AY with ⟨hne, he2⟩ | ⟨rfl, _, hnC, hnE, oC, oE⟩
                    · exfalso
                      rw [unhide UZ] at he2
                      exact hne he2
                    · rw [unhide UK] at hnC hnE oC oE
                      rw [unhide BV] at hnC oC
                      rw [unhide BL] at hnE oE
                      obtain rfl : nC = vn := hnC.symm.trans (unhide VN)
                      obtain rfl : nE = ln := hnE.symm.trans (unhide LN)
                      have IC := hide oC.ints
                      have IE := hide oE.ints
                      have XY := hide (later_block (unhide EY) (unhide X1))
                      have m0 := box_cell (unhide XY) 0 _ rfl
                      have m1 := box_cell (unhide XY) 1 _ rfl
                      have k0 := cell_later (unhide FY) y0
                      have k1 := cell_later (unhide FY) y1
                      have JA := hide ((unhide IA).later (unhide FY))
                      have JB := hide ((unhide IB).later (unhide FY))
                      clear hnC hnE oC oE AY AX GX y0 y1 q1 c0 c1 p0 p1
                      go_wp2_with fail
                      refine (same_calls (unhide IC) (unhide IE) ((unhide V).later (unhide EY)) ((unhide L).later (unhide EY)) nC nE nC nE (unhide VN) (unhide LN) (unhide VN) (unhide LN) hvx hlx hvx hlx).mono ?_
                      rw [show (decide (vs0 = vs0) && decide (ls0 = ls0)) = true by simp]
                      rintro e W7 ⟨rfl, b7⟩
                      have s0 := cell_later b7 k0
                      have s1 := cell_later b7 k1
                      have E7 := hide ((unhide EY).trans (b7.mono (unhide EY).size))
                      have KA := hide ((unhide JA).later b7)
                      have KB := hide ((unhide JB).later b7)
                      clear b7 k0 k1 m0 m1 x0 x1
                      go_wp2_with fail
                      refine (right_calls (unhide KA) (unhide KB) nA nB (unhide NA) (unhide NB) mA mB').mono ?_
                      rw [unhide RX]
                      rintro e W8 ⟨rfl, b8⟩
                      have r0 := cell_later b8 s0
                      have r1 := cell_later b8 s1
                      have E8 := hide ((unhide E7).trans (b8.mono (unhide E7).size))
                      have X8 := hide (later_block (unhide E8) (unhide X1))
                      have m0 := box_cell (unhide X8) 0 _ rfl
                      have m1 := box_cell (unhide X8) 1 _ rfl
                      obtain ⟨nl1, nl2⟩ := unhide NL
                      have nl3 : ¬ ((nA : Int) - (nC : Int) < -1) := by omega
                      have nl4 : ¬ (1 < (nA : Int) - (nC : Int)) := by omega
                      clear b8 s0 s1
                      simp only [maxLen] at mA hvx
                      go_wp2
                      exact ⟨⟨j + 1, by omega, by go_num, unhide E8⟩, by simp [intOf]; omega⟩
                  exact AllReadyH.nil
                exact AllReadyH.nil
              refine AllReadyH.cons (o := { dst := some 9, op := Op.alloc 24, type := 0, pos := "law.go:120", after := #[], guard := none }) rfl (fun K hK => ?_) ?_
              · refine step_alloc24 rfl rfl ?_
                intro h W6 hg gx b6
                (try have NE := hide (show ∀ b, er2 = 0 → (blk spC = some b ∨ blk spE = some b) → b ≠ h from fun b h0 hb => by have h1 := ((unhide AX).lt b h0 hb).2; have h2 := unhide hg; omega))
                (try have AX := hide ((unhide AX).later b6))
                have GX := hide gx
                have GL2 := hide (show h < W6.heap.size from (Array.getElem?_eq_some_iff.1 gx).1)
                have HW := hide (show U.heap.size ≤ h by have h2 := unhide hg; have := (unhide G).size; omega)
                have G := hide ((unhide G).trans (b6.mono (unhide G).size))
                clear gx b6 hg
                refine hK.out _ _ ?_ (fun hHeld => ?_)
                · try dsimp only
                  first | exact ⟨⟨cell_later (unhide G) y0, cell_later (unhide G) y1⟩, cell_later (unhide G) q1⟩ | (have t0 := cell_later (unhide G) y0; have t1 := cell_later (unhide G) y1; have t2 := cell_later (unhide G) q1; exact ⟨⟨set2_cell t0 (by have := unhide HW; have := cell_lt y0; omega) _ _, set2_cell t1 (by have := unhide HW; have := cell_lt y0; omega) _ _⟩, set2_cell t2 (by have := unhide HW; have := cell_lt q1; omega) _ _⟩)
                clear hK K
                try simp only [Act.put, List.setIfInBounds_toArray, List.set_cons_zero, List.set_cons_succ]
                refine wpAnyH_ready (rs := [8]) (by kernel_rfl) (by simp) ?_
                refine AllReadyH.cons (o := { dst := some 45, op := Op.call { callee := Callee.value (Operand.func 30), args := #[Operand.tmp 37, Operand.tmp 44], argTypes := #[24, 40] }, type := 42, pos := "law.go:120", after := #[{ on := 0, ground := Ground.data }, { on := 7, ground := Ground.data }], guard := none }) rfl (fun K hK => ?_) ?_
                · go_simp
                  refine (apply_calls ((unhide IA).later (unhide G)) ((unhide IB).later (unhide G)) nA nB (unhide NA) (unhide NB) mA mB' d' n1 (unhide N64)).mono ?_
                  rintro e W5 ⟨hres, b5⟩
                  obtain ⟨spC, nC, cC, spE, nE, cE, er2, rfl, ar⟩ := apply_open hres
                  clear hres
                  (try have NE := hide (show ∀ b, er2 = 0 → (blk spC = some b ∨ blk spE = some b) → b ≠ h from fun b h0 hb => by have h1 := (ar.lt b h0 hb).1; have h2 := unhide GL2; omega))
                  (try have GX := hide (later_block b5 (unhide GX)))
                  have G := hide ((unhide G).trans (b5.mono (unhide G).size))
                  have AX := hide ar
                  clear ar b5
                  go_wp2_with fail
                  refine hK.out _ _ ?_ (fun hHeld => ?_)
                  · try dsimp only
                    first | exact ⟨⟨cell_later (unhide G) y0, cell_later (unhide G) y1⟩, cell_later (unhide G) q1⟩ | (have t0 := cell_later (unhide G) y0; have t1 := cell_later (unhide G) y1; have t2 := cell_later (unhide G) q1; exact ⟨⟨set2_cell t0 (by have := unhide HW; have := cell_lt y0; omega) _ _, set2_cell t1 (by have := unhide HW; have := cell_lt y0; omega) _ _⟩, set2_cell t2 (by have := unhide HW; have := cell_lt q1; omega) _ _⟩)
                  clear hK K
                  try simp only [Act.put, List.setIfInBounds_toArray, List.set_cons_zero, List.set_cons_succ]
                  refine held_take 9 (oi := { dst := some 36, op := Op.move (Operand.tmp 45), type := 42, pos := "law.go:120", after := #[{ on := 8, ground := Ground.data }], guard := none }) (v := ?_) (by kernel_rfl) rfl (by rfl) (by kernel_rfl) (by kernel_rfl) (fun _ _ _ h => h) ?_ (by assumption) ?_
                  rotate_left
                  · (intro w hSw; (try dsimp only at hSw); go_simp; try with_reducible rfl)
                  try simp only [Act.put, List.setIfInBounds_toArray, List.set_cons_zero, List.set_cons_succ]
                  refine held_take 10 (oi := { dst := some 46, op := Op.extract (Operand.tmp 36) 0, type := 24, pos := "law.go:120", after := #[{ on := 9, ground := Ground.data }], guard := none }) (v := ?_) (by kernel_rfl) rfl (by rfl) (by kernel_rfl) (by kernel_rfl) (fun _ _ _ h => h) ?_ (by assumption) ?_
                  rotate_left
                  · (intro w hSw; (try dsimp only at hSw); go_simp; try with_reducible rfl)
                  try simp only [Act.put, List.setIfInBounds_toArray, List.set_cons_zero, List.set_cons_succ]
                  refine held_take 11 (oi := { dst := some 47, op := Op.extract (Operand.tmp 36) 1, type := 41, pos := "law.go:120", after := #[{ on := 9, ground := Ground.data }, { on := 13, ground := Ground.gcOnly Departure.lateStores }], guard := none }) (v := ?_) (by kernel_rfl) rfl (by rfl) (by kernel_rfl) (by kernel_rfl) (fun _ _ _ h => h) ?_ (by assumption) ?_
                  rotate_left
                  · (intro w hSw; (try dsimp only at hSw); go_simp; try with_reducible rfl)
                  try simp only [Act.put, List.setIfInBounds_toArray, List.set_cons_zero, List.set_cons_succ]
                  refine wpAnyH_ready (rs := [13]) (by kernel_rfl) (by simp) ?_
                  refine AllReadyH.cons (o := { dst := none, op := Op.store 24 (Operand.tmp 9) (Operand.tmp 46), type := 0, pos := "law.go:120", after := #[{ on := 12, ground := Ground.data }, { on := 10, ground := Ground.data }, { on := 8, ground := Ground.chain }, { on := 0, ground := Ground.phase }, { on := 1, ground := Ground.phase }, { on := 2, ground := Ground.phase }, { on := 3, ground := Ground.phase }, { on := 4, ground := Ground.phase }, { on := 5, ground := Ground.phase }, { on := 6, ground := Ground.phase }, { on := 7, ground := Ground.phase }, { on := 8, ground := Ground.phase }, { on := 9, ground := Ground.phase }, { on := 10, ground := Ground.phase }, { on := 11, ground := Ground.textOnly Departure.lateStores }, { on := 12, ground := Ground.phase }], guard := none }) rfl (fun K hK => ?_) ?_
                  · have z0 := box_cell (unhide GX) 0 _ rfl
                    have z1 := box_cell (unhide GX) 1 _ rfl
                    have z2 := mbox_free (unhide GX) 0
                    have z3 := mbox_free (unhide GX) 1
                    go_simp
                    refine hK.out _ _ ?_ (fun hHeld => ?_)
                    · try dsimp only
                      first | exact ⟨⟨cell_later (unhide G) y0, cell_later (unhide G) y1⟩, cell_later (unhide G) q1⟩ | (have t0 := cell_later (unhide G) y0; have t1 := cell_later (unhide G) y1; have t2 := cell_later (unhide G) q1; exact ⟨⟨set2_cell t0 (by have := unhide HW; have := cell_lt y0; omega) _ _, set2_cell t1 (by have := unhide HW; have := cell_lt y0; omega) _ _⟩, set2_cell t2 (by have := unhide HW; have := cell_lt q1; omega) _ _⟩)
                    clear hK K
                    try simp only [Act.put, List.setIfInBounds_toArray, List.set_cons_zero, List.set_cons_succ]
                    refine held_take 14 (oi := { dst := some 10, op := Op.assign (Operand.tmp 47), type := 41, pos := "law.go:120", after := #[{ on := 11, ground := Ground.data }, { on := 13, ground := Ground.chain }, { on := 0, ground := Ground.phase }, { on := 1, ground := Ground.phase }, { on := 2, ground := Ground.phase }, { on := 3, ground := Ground.phase }, { on := 4, ground := Ground.phase }, { on := 5, ground := Ground.phase }, { on := 6, ground := Ground.phase }, { on := 7, ground := Ground.phase }, { on := 8, ground := Ground.phase }, { on := 9, ground := Ground.phase }, { on := 10, ground := Ground.phase }, { on := 11, ground := Ground.phase }, { on := 12, ground := Ground.phase }, { on := 13, ground := Ground.phase }], guard := none }) (v := ?_) (by kernel_rfl) rfl (by rfl) (by kernel_rfl) (by kernel_rfl) (fun _ _ _ h => h) ?_ (by assumption) ?_
                    rotate_left
                    · (intro w hSw; (try dsimp only at hSw); go_simp; try with_reducible rfl)
                    try simp only [Act.put, List.setIfInBounds_toArray, List.set_cons_zero, List.set_cons_succ]
                    refine wpAnyH_done (by kernel_rfl) ?_ _
                    obtain ⟨Y, x0, x1, gY, hY⟩ := two_sets (unhide GX) (.slice spC nC cC) (.slice spE nE cE)
                    rw [hY]
                    have AY := hide ((unhide AX).kept gY (unhide NE))
                    have FY := hide ((unhide G).grown gY (unhide G).size (fun b e => by have := Option.some.inj e; have := unhide HW; omega))
                    have EY := hide ((unhide EU).trans ((unhide FY).mono (unhide EU).size))
                    clear hY gY hHeld
                    rcases unhide AY with ⟨hne, he2⟩ | ⟨rfl, _, hnC, hnE, oC, oE⟩
                    · exfalso
                      rw [unhide UZ] at he2
                      exact hne he2
                    · rw [unhide UK] at hnC hnE oC oE
                      rw [unhide BV] at hnC oC
                      rw [unhide BL] at hnE oE
                      obtain rfl : nC = vn := hnC.symm.trans (unhide VN)
                      obtain rfl : nE = ln := hnE.symm.trans (unhide LN)
                      have IC := hide oC.ints
                      have IE := hide oE.ints
                      have XY := hide (later_block (unhide EY) (unhide X1))
                      have m0 := box_cell (unhide XY) 0 _ rfl
                      have m1 := box_cell (unhide XY) 1 _ rfl
                      have k0 := cell_later (unhide FY) y0
                      have k1 := cell_later (unhide FY) y1
                      have JA := hide ((unhide IA).later (unhide FY))
                      have JB := hide ((unhide IB).later (unhide FY))
                      clear hnC hnE oC oE AY AX GX y0 y1 q1 c0 c1 p0 p1
                      go_wp2_with fail
                      refine (same_calls (unhide IC) (unhide IE) ((unhide V).later (unhide EY)) ((unhide L).later (unhide EY)) nC nE nC nE (unhide VN) (unhide LN) (unhide VN) (unhide LN) hvx hlx hvx hlx).mono ?_
                      rw [show (decide (vs0 = vs0) && decide (ls0 = ls0)) = true by simp]
                      rintro e W7 ⟨rfl, b7⟩
                      have s0 := cell_later b7 k0
                      have s1 := cell_later b7 k1
                      have E7 := hide ((unhide EY).trans (b7.mono (unhide EY).size))
                      have KA := hide ((unhide JA).later b7)
                      have KB := hide ((unhide JB).later b7)
                      clear b7 k0 k1 m0 m1 x0 x1
                      go_wp2_with fail
                      refine (right_calls (unhide KA) (unhide KB) nA nB (unhide NA) (unhide NB) mA mB').mono ?_
                      rw [unhide RX]
                      rintro e W8 ⟨rfl, b8⟩
                      have r0 := cell_later b8 s0
                      have r1 := cell_later b8 s1
                      have E8 := hide ((unhide E7).trans (b8.mono (unhide E7).size))
                      have X8 := hide (later_block (unhide E8) (unhide X1))
                      have m0 := box_cell (unhide X8) 0 _ rfl
                      have m1 := box_cell (unhide X8) 1 _ rfl
                      obtain ⟨nl1, nl2⟩ := unhide NL
                      have nl3 : ¬ ((nA : Int) - (nC : Int) < -1) := by omega
                      have nl4 : ¬ (1 < (nA : Int) - (nC : Int)) := by omega
                      clear b8 s0 s1
                      simp only [maxLen] at mA hvx
                      go_wp2
                      exact ⟨⟨j + 1, by omega, by go_num, unhide E8⟩, by simp [intOf]; omega⟩
                  exact AllReadyH.nil
                exact AllReadyH.nil
              exact AllReadyH.nil
          exact AllReadyH.nil
        exact AllReadyH.nil
      exact AllReadyH.nil
    · obtain rfl : j = 3 := by omega
      go_wp2_with fail
      refine (live3_calls _).mono ?_
      rintro e w3 ⟨rfl, b3⟩
      have F3 := hide ((unhide b1).trans (((unhide F0).trans (b3.mono (unhide F0).size)).mono (by have := (unhide b1).size; omega)))
      clear b3
      go_wp2
      go_ret
      exact ⟨rfl, by first | exact unhide F3 | (rw [hD]; exact unhide F3)⟩

set_option maxRecDepth 100000 in
theorem lifted (os : Os) (started : os.Started) (H : Type) (enc : TypeId × Value → H) :
    ReturnsInHanded {} Try.checked os 11 .any (Rows.memberUndoesSpec.pre6 enc Try.prog Try.f11 Rows.memberUndoesRow.domain false) (Rows.memberUndoesSpec.post enc Try.prog Try.f11 false true false false) := by
  refine returnsInHanded_of_change_sized (C := Try.checked) own started (by kernel_rfl) Try.func11
    (ChangeSpec.witness6 (enc := enc) (C := Try.checked) false ⟨#[], #[.agg #[.slice none 0 0, .slice none 0 0], .int .i64 0], []⟩ 8 (by kernel_rfl) (by kernel_rfl) (by kernel_rfl) (by kernel_rfl)) ?_
  intro W base args ds gs before hval0 hW hcnd hsz _
  have hval : ∀ (j : Nat) t v, Try.f11.params[j]? = some t → args[j]? = some v → Value.okWide Try.prog W .any base t v := hval0
  have hW' := hW
  obtain ⟨p, q, hA0, hV, rfl, hfz, hnd⟩ := hW
  have hA : DataW.TrodAll enc Try.prog W 0 (fun _ => true) true Try.f11.params.toList args.toList ds p := hA0
  rw [Try.params11] at hA hval
  obtain ⟨v0, vs0, d0, ds0, p0, q0, hargs, rfl, rfl, h0, r0⟩ := trodAll_cons hA
  obtain ⟨v1, vs1, d1, ds1, p1, q1, rfl, rfl, rfl, h1, r1⟩ := trodAll_cons r0
  obtain ⟨rfl, rfl, rfl⟩ := trodAll_nil r1
  obtain rfl : args = #[v0, v1] := by cases args; simp_all
  obtain ⟨rfl, rfl⟩ := trodVars_none hV
  have k0 := h0
  have lt0 : ∀ x ∈ p0, x.block < W.heap.size := by obtain ⟨m, hm⟩ := k0; exact DataW.trod_lt m _ _ _ hm
  obtain ⟨va0, vc0, vs0, la0, lc0, ls0, rfl, hsv0, hV0, hzv0, hsl0, hL0, hzl0⟩ := open_membersS (hval 0 24 v0 rfl rfl) h0 (fun n hn => of_decide_eq_true (List.all_eq_true.1 hsz n (DataW.weights_mem_each (j := 0) (d := d0) rfl rfl n hn)))
  obtain ⟨n1, rfl, rfl, rfl, w1⟩ := open_int Try.underlying3 (hval 1 3 v1 rfl rfl) h1
  have hn1 := i64_bounds w1
  clear hA0 hval0
  refine (walk va0 vc0 vs0 la0 lc0 ls0 n1 W hsv0 hV0 hzv0 hsl0 hL0 hzl0 hn1).mono fun e W' ⟨he, bel⟩ => ?_
  subst he
  exact ⟨_, rfl, _, _, _, [], _, [], hW', trodAll_mk1 (shut_bool Try.underlying4 _), (trodAll_cons_mk (Below.trod laidOut (by kernel_rfl) (of_decide_eq_true (by kernel_rfl)) k0 bel lt0) (trodAll_cons_mk (shut_int Try.underlying3 w1) trodAll_mk0)), rfl, bel.frame _, fun h => by cases h⟩

theorem proved : Rows.MemberUndoesSaid :=
  OpenClaim.holds_of_wide 11 Try.f11 rfl rfl rfl rfl rfl rfl rfl ⟨rfl, rfl, rfl, rfl, rfl⟩ rfl rfl rfl rfl rfl (by kernel_rfl) Try.func11 (by kernel_rfl)
    (of_decide_eq_true (by kernel_rfl)) (by unfold Func.isWrapper; first | (rw [if_pos (by decide +kernel)]; kernel_rfl) | (rw [if_neg (by decide +kernel)]; exact ⟨rfl, rfl⟩))
    (fun os started H enc _ => lifted os started H enc)
end Go.Proofs.Ytnclkkoefejjiaa.memberUndoes
namespace Go.Proofs.Ytnclkkoefejjiaa
theorem memberUndoes_holds : Rows.MemberUndoesSaid := memberUndoes.proved
#print axioms memberUndoes_holds
end Go.Proofs.Ytnclkkoefejjiaa
