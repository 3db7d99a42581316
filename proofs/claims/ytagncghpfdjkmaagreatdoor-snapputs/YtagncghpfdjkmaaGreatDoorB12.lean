/- The document's Copy of members. -/
import Derived.Test.YtagncghpfdjkmaaGreatDoorB11
import Derived.Test.YtagncghpfdjkmaaGreatDoorB10
section
namespace Go.Proofs.YtagncghpfdjkmaaGreatDoor
open Go.ChangeShapes Go.WideShapes Go.ChangeAt Go.RowKit

theorem step_build0 {w : World} {ops : Array Oper} {o : Oper} {a : Act} {K : Act → World → Prop} {Q : Exit → Act → World → Prop} {E : Prop} (hgd : o.guard = none)
    (ho : o.op = .buildSlice 24 0 #[]) (base : Nat) (hbase : base ≤ w.heap.size)
    (h : ∀ sp w', OwnI base w' sp 0 [] → Grew w none w' sp → K (a.put o.dst (.slice sp 0 0)) w') :
    if Region.wanted o (yielded ops a.tmps) = true then Oper.wp Tryz.prog o a w K Q else E := by
  have hw : Region.wanted o (yielded ops a.tmps) = true := by simp [Region.wanted, hgd]
  rw [if_pos hw]
  have h1 := h (some ⟨w.heap.size, 0, none⟩) (w.alloc (.cells #[] 3)) (OwnI.empty w base hbase) ⟨World.grownBy_alloc w _ none, fun g hg => .inr (Nat.le_of_eq (Option.some.inj hg))⟩
  unfold Oper.wp
  simp [execOp, ho, go_sem]
  exact h1
theorem mbox_free {w : World} {j : Nat} {cs : Array Value} {T : TypeId} (h : w.heap[j]? = some (.cells cs T (0, 0))) (f : Nat) : w.frozen? ⟨j, f, none⟩ = false := by
  simp [World.frozen?, h]
/-- Two own slices that lie apart. -/
def Apart (a b : Option Addr) : Prop := ∀ g, blk a = some g → blk b ≠ some g
theorem Apart.none_left (b : Option Addr) : Apart none b := fun g h => by cases h
theorem Apart.none_right (a : Option Addr) : Apart a none := fun g _ h => by cases h
theorem Apart.left {base : Nat} {u u' : World} {s s' b : Option Addr} {c : Nat} {l : List Int} (h : Apart s b) (gw : Grew u s u' s') (ob : OwnI base u b c l) : Apart s' b := fun g hg hb =>
  (gw.lies g hg).elim (fun h1 => h g h1 hb) (fun h1 => by have := (ob.blk_lt g hb).2; omega)
theorem Apart.right {base : Nat} {u u' : World} {s s' a : Option Addr} {c : Nat} {l : List Int} (h : Apart a s) (gw : Grew u s u' s') (oa : OwnI base u a c l) : Apart a s' := fun g hg hb =>
  (gw.lies g hb).elim (fun h1 => h g hg h1) (fun h1 => by have := (oa.blk_lt g hg).2; omega)
theorem OwnI.stayB {base : Nat} {u u' : World} {s s' b : Option Addr} {c : Nat} {l : List Int} (ob : OwnI base u b c l) (h : Apart s b) (gw : Grew u s u' s') : OwnI base u' b c l := ob.kept gw.grown (fun g hg e => h g e hg)
theorem OwnI.stayA {base : Nat} {u u' : World} {s s' a : Option Addr} {c : Nat} {l : List Int} (oa : OwnI base u a c l) (h : Apart a s) (gw : Grew u s u' s') : OwnI base u' a c l := oa.kept gw.grown (fun g hg e => h g hg e)
theorem two_sets {u : World} {j : Nat} {x y : Value} {T : TypeId} (h : u.heap[j]? = some (.cells #[x, y] T (0, 0))) (a b : Value) : ∃ W, W.cell? ⟨j, 0, none⟩ = some a ∧ W.cell? ⟨j, 1, none⟩ = some b ∧ u.grownBy W (some j) ∧ (u.setCell ⟨j, 0, none⟩ a).setCell ⟨j, 1, none⟩ b = W := by
  have h1 := heap_setCell_same u j 0 _ T a h
  have h2 := heap_setCell_same _ j 1 _ T b h1
  refine ⟨_, ?_, ?_, grown_trans (grown_set u j 0 a) (grown_set _ j 1 b), rfl⟩
  · rw [cell_of_row _ _ _ _ _ _ h2]; rfl
  · rw [cell_of_row _ _ _ _ _ _ h2]; rfl
section
variable {w : World} {va : Option Addr} {vc : Nat} {v : List Int} {la : Option Addr} {lc : Nat} {l : List Int}
set_option maxRecDepth 20000 in
set_option maxHeartbeats 16000000 in
theorem copy_calls (hv : IntsAt w va v) (hl : IntsAt w la l) (vn ln : Nat) (hvn : v.length = vn) (hln : l.length = ln) (hvx : vn * 8 ≤ 140737488351232) (hlx : ln * 8 ≤ 140737488351232) (hzv : va = none → vc = 0) (hzl : la = none → lc = 0) :
    Calls Tryz.prog 49 #[mV va vn vc la ln lc] w fun e w' => ∃ spA cA spB cB, e = .returned (mV spA vn cA spB ln cB) ∧ OwnI w.heap.size w' spA cA v ∧ OwnI w.heap.size w' spB cB l ∧ Apart spA spB ∧ Below w.heap.size w w' := by
  have b1 := hide (show Below w.heap.size w ((w.alloc (mB va vn vc la ln lc)).alloc (mB none 0 0 none 0 0)) from ((Below.refl _ _).alloc (Nat.le_refl _) _).alloc (by simp) _)
  have X1 := hide (heap_old (mB none 0 0 none 0 0) (heap_new w (mB va vn vc la ln lc)))
  have Y1 := hide (show ((w.alloc (mB va vn vc la ln lc)).alloc (mB none 0 0 none 0 0)).heap[w.heap.size + 1]? = some (mB none 0 0 none 0 0) by
    have := heap_new (w.alloc (mB va vn vc la ln lc)) (mB none 0 0 none 0 0)
    rwa [World.size_alloc] at this)
  have ZE := hide (show ((w.alloc (mB va vn vc la ln lc)).alloc (mB none 0 0 none 0 0)).heap.size = w.heap.size + 2 by simp)
  have V := hide (hv.later (unhide b1))
  have L := hide (hl.later (unhide b1))
  have VN := hide hvn
  have LN := hide hln
  have ZV := hide hzv
  have ZL := hide hzl
  have d0 := box_cell (unhide X1) 0 _ rfl
  have d1 := box_cell (unhide X1) 1 _ rfl
  clear hv hl hvn hln hzv hzl
  go_enter Tryz.func49, Tryz.ntmps49
  go_wp2_with fail
  generalize hD : w.heap.size = D at *
  generalize (w.alloc (mB va vn vc la ln lc)).alloc (mB none 0 0 none 0 0) = w1 at *
  have F := hide (show Below w1.heap.size w1 w1.drew from (Below.refl _ _).drew)
  have OA := hide (OwnI.ofNil w1.drew w1.heap.size)
  have OB := hide (OwnI.ofNil w1.drew w1.heap.size)
  have AP := hide (Apart.none_left none)
  refine wp_region_held_drew (S := fun w' => w'.cell? ⟨D, 0, none⟩ = some (.slice va vn vc) ∧ w'.cell? ⟨D, 1, none⟩ = some (.slice la ln lc)) (by kernel_rfl) ?_ (fun hHeld => ?_)
  · try dsimp only
    first | exact ⟨cell_later (unhide F) d0, cell_later (unhide F) d1⟩ | (have t0 := cell_later (unhide F) d0; have t1 := cell_later (unhide F) d1; go_keep)
  refine held_take 1 (oi := { dst := some 4, op := Op.fieldAddr 26 (Operand.tmp 1) 0, type := 0, pos := "ref.go:243", after := #[], guard := none }) (v := ?_) (by kernel_rfl) rfl (by rfl) (by kernel_rfl) (by kernel_rfl) (fun _ _ _ h => h) ?_ (by assumption) ?_
  rotate_left
  · (intro w hSw; (try dsimp only at hSw); go_simp; try with_reducible rfl)
  try simp only [Act.put, List.setIfInBounds_toArray, List.set_cons_zero, List.set_cons_succ]
  refine held_take 2 (oi := { dst := some 5, op := Op.load 24 (Operand.tmp 4), type := 24, pos := "ref.go:243", after := #[{ on := 1, ground := Ground.data }], guard := none }) (v := ?_) (by kernel_rfl) rfl (by rfl) (by kernel_rfl) (by kernel_rfl) (fun _ _ _ h => h) ?_ (by assumption) ?_
  rotate_left
  · (intro w hSw; (try dsimp only at hSw); go_simp; try with_reducible rfl)
  try simp only [Act.put, List.setIfInBounds_toArray, List.set_cons_zero, List.set_cons_succ]
  refine held_take 5 (oi := { dst := some 8, op := Op.fieldAddr 26 (Operand.tmp 1) 1, type := 0, pos := "ref.go:243", after := #[], guard := none }) (v := ?_) (by kernel_rfl) rfl (by rfl) (by kernel_rfl) (by kernel_rfl) (fun _ _ _ h => h) ?_ (by assumption) ?_
  rotate_left
  · (intro w hSw; (try dsimp only at hSw); go_simp; try with_reducible rfl)
  try simp only [Act.put, List.setIfInBounds_toArray, List.set_cons_zero, List.set_cons_succ]
  refine held_take 6 (oi := { dst := some 9, op := Op.load 24 (Operand.tmp 8), type := 24, pos := "ref.go:243", after := #[{ on := 5, ground := Ground.data }], guard := none }) (v := ?_) (by kernel_rfl) rfl (by rfl) (by kernel_rfl) (by kernel_rfl) (fun _ _ _ h => h) ?_ (by assumption) ?_
  rotate_left
  · (intro w hSw; (try dsimp only at hSw); go_simp; try with_reducible rfl)
  try simp only [Act.put, List.setIfInBounds_toArray, List.set_cons_zero, List.set_cons_succ]
  refine wpAnyH_ready (rs := [0, 4]) (by kernel_rfl) (by simp) ?_
  refine AllReadyH.cons (o := { dst := some 3, op := Op.buildSlice 24 0 #[], type := 24, pos := "ref.go:243", after := #[], guard := none }) rfl (fun K hK => ?_) ?_
  · refine step_build0 rfl rfl w1.heap.size (unhide F).size ?_
    intro spA uA oA gw
    have AP := hide ((Apart.none_left _).left gw (unhide OB))
    have OB := hide ((unhide OB).stayB (Apart.none_left _) gw)
    have F := hide ((unhide F).trans (GrewI.below gw (OwnI.ofNil _ w1.heap.size) (unhide F).size))
    have OA := hide oA
    clear oA gw
    refine hK.out _ _ ?_ (fun hHeld => ?_)
    · try dsimp only
      first | exact ⟨cell_later (unhide F) d0, cell_later (unhide F) d1⟩ | (have t0 := cell_later (unhide F) d0; have t1 := cell_later (unhide F) d1; go_keep)
    clear hK K
    try simp only [Act.put, List.setIfInBounds_toArray, List.set_cons_zero, List.set_cons_succ]
    refine wpAnyH_ready (rs := [3, 4]) (by kernel_rfl) (by simp) ?_
    refine AllReadyH.cons (o := { dst := some 6, op := Op.call { callee := Callee.builtin Builtin.append, args := #[Operand.tmp 3, Operand.tmp 5], argTypes := #[24, 24] }, type := 24, pos := "ref.go:243", after := #[{ on := 0, ground := Ground.data }, { on := 2, ground := Ground.data }], guard := none }) rfl (fun K hK => ?_) ?_
    · refine step_appendI rfl (.tmp 3) (.tmp 5) rfl w1.heap.size spA 0 0 [] rfl rfl (unhide OA) va vn vc rfl v (unhide VN) ((unhide V).later (unhide F)) (unhide ZV) (by simp only [List.length_nil]; omega) (unhide F).size ?_
      intro spA2 nA cA uA2 hnA oA gw
      rw [List.nil_append] at hnA oA
      have NA := hide (show nA = vn from (unhide hnA).symm.trans (unhide VN))
      have OB := hide ((unhide OB).stayB (unhide AP) gw)
      have AP := hide ((unhide AP).left gw (by assumption))
      have F := hide ((unhide F).trans (GrewI.below gw (unhide OA) (unhide F).size))
      have OA := hide oA
      clear oA hnA gw
      refine hK.out _ _ ?_ (fun hHeld => ?_)
      · try dsimp only
        first | exact ⟨cell_later (unhide F) d0, cell_later (unhide F) d1⟩ | (have t0 := cell_later (unhide F) d0; have t1 := cell_later (unhide F) d1; go_keep)
      clear hK K
      try simp only [Act.put, List.setIfInBounds_toArray, List.set_cons_zero, List.set_cons_succ]
      refine wpAnyH_ready (rs := [4]) (by kernel_rfl) (by simp) ?_
      refine AllReadyH.cons (o := { dst := some 7, op := Op.buildSlice 24 0 #[], type := 24, pos := "ref.go:243", after := #[], guard := none }) rfl (fun K hK => ?_) ?_
      · refine step_build0 rfl rfl w1.heap.size (unhide F).size ?_
        intro spB uB oB gw
        have AP := hide ((Apart.none_right _).right gw (unhide OA))
        have OA := hide ((unhide OA).stayA (Apart.none_right _) gw)
        have F := hide ((unhide F).trans (GrewI.below gw (OwnI.ofNil _ w1.heap.size) (unhide F).size))
        have OB := hide oB
        clear oB gw
        refine hK.out _ _ ?_ (fun hHeld => ?_)
        · try dsimp only
          first | exact ⟨cell_later (unhide F) d0, cell_later (unhide F) d1⟩ | (have t0 := cell_later (unhide F) d0; have t1 := cell_later (unhide F) d1; go_keep)
        clear hK K
        try simp only [Act.put, List.setIfInBounds_toArray, List.set_cons_zero, List.set_cons_succ]
        refine wpAnyH_ready (rs := [7]) (by kernel_rfl) (by simp) ?_
        refine AllReadyH.cons (o := { dst := some 10, op := Op.call { callee := Callee.builtin Builtin.append, args := #[Operand.tmp 7, Operand.tmp 9], argTypes := #[24, 24] }, type := 24, pos := "ref.go:243", after := #[{ on := 4, ground := Ground.data }, { on := 6, ground := Ground.data }, { on := 3, ground := Ground.chain }], guard := none }) rfl (fun K hK => ?_) ?_
        · refine step_appendI rfl (.tmp 7) (.tmp 9) rfl w1.heap.size spB 0 0 [] rfl rfl (unhide OB) la ln lc rfl l (unhide LN) ((unhide L).later (unhide F)) (unhide ZL) (by simp only [List.length_nil]; omega) (unhide F).size ?_
          intro spB2 nB cB uB2 hnB oB gw
          rw [List.nil_append] at hnB oB
          have NB := hide (show nB = ln from (unhide hnB).symm.trans (unhide LN))
          have AP := hide ((unhide AP).right gw (unhide OA))
          have OA := hide ((unhide OA).stayA (by assumption) gw)
          have F := hide ((unhide F).trans (GrewI.below gw (unhide OB) (unhide F).size))
          have OB := hide oB
          clear oB hnB gw
          refine hK.out _ _ ?_ (fun hHeld => ?_)
          · try dsimp only
            first | exact ⟨cell_later (unhide F) d0, cell_later (unhide F) d1⟩ | (have t0 := cell_later (unhide F) d0; have t1 := cell_later (unhide F) d1; go_keep)
          clear hK K
          try simp only [Act.put, List.setIfInBounds_toArray, List.set_cons_zero, List.set_cons_succ]
          refine held_take 8 (oi := { dst := some 11, op := Op.build 26 #[(0, Operand.tmp 6), (1, Operand.tmp 10)], type := 26, pos := "ref.go:243", after := #[{ on := 3, ground := Ground.data }, { on := 7, ground := Ground.data }], guard := none }) (v := ?_) (by kernel_rfl) rfl (by rfl) (by kernel_rfl) (by kernel_rfl) (fun _ _ _ h => h) ?_ (by assumption) ?_
          rotate_left
          · (intro w hSw; (try dsimp only at hSw); go_simp; try with_reducible rfl)
          try simp only [Act.put, List.setIfInBounds_toArray, List.set_cons_zero, List.set_cons_succ]
          refine wpAnyH_ready (rs := [9]) (by kernel_rfl) (by simp) ?_
          refine AllReadyH.cons (o := { dst := none, op := Op.store 26 (Operand.tmp 2) (Operand.tmp 11), type := 0, pos := "ref.go:243", after := #[{ on := 8, ground := Ground.data }, { on := 7, ground := Ground.chain }, { on := 0, ground := Ground.phase }, { on := 1, ground := Ground.phase }, { on := 2, ground := Ground.phase }, { on := 3, ground := Ground.phase }, { on := 4, ground := Ground.phase }, { on := 5, ground := Ground.phase }, { on := 6, ground := Ground.phase }, { on := 7, ground := Ground.phase }, { on := 8, ground := Ground.phase }], guard := none }) rfl (fun K hK => ?_) ?_
          · have Y2 := hide (later_block (unhide F) (unhide Y1))
            have z0 := box_cell (unhide Y2) 0 _ rfl
            have z1 := box_cell (unhide Y2) 1 _ rfl
            have z2 := mbox_free (unhide Y2) 0
            have z3 := mbox_free (unhide Y2) 1
            go_simp
            refine hK.out _ _ ?_ (fun hHeld => ?_)
            · try dsimp only
              first | exact ⟨cell_later (unhide F) d0, cell_later (unhide F) d1⟩ | (have t0 := cell_later (unhide F) d0; have t1 := cell_later (unhide F) d1; go_keep)
            clear hK K
            try simp only [Act.put, List.setIfInBounds_toArray, List.set_cons_zero, List.set_cons_succ]
            refine wpAnyH_done (by kernel_rfl) ?_ _
            have NA' := unhide NA
            have NB' := unhide NB
            subst NA' NB'
            obtain ⟨W, y0, y1, gW, hW⟩ := two_sets (unhide Y2) (.slice spA2 nA cA) (.slice spB2 nB cB)
            rw [hW]
            have OA := hide ((unhide OA).kept gW (fun g hg e => by have h1 := ((unhide OA).blk_lt g hg).1; have h2 := Option.some.inj e; have h3 := unhide ZE; omega))
            have OB := hide ((unhide OB).kept gW (fun g hg e => by have h1 := ((unhide OB).blk_lt g hg).1; have h2 := Option.some.inj e; have h3 := unhide ZE; omega))
            have FB := hide ((unhide b1).trans ((Below.grown ((unhide F).mono (by have := unhide ZE; omega) : Below D w1 _) gW (by have := (unhide F).size; have := unhide ZE; omega) (fun g e => by have := Option.some.inj e; omega))))
            clear hW gW
            go_wp2
            refine bodyPost_ret (v := mV spA2 nA cA spB2 nB cB) (by simp [results, Tryz.results49, go_sem, y0, y1]) rfl ?_
            exact ⟨spA2, cA, spB2, cB, rfl, (unhide OA).mono (by have := unhide ZE; omega), (unhide OB).mono (by have := unhide ZE; omega), unhide AP, by first | exact unhide FB | (rw [hD]; exact unhide FB)⟩
          exact AllReadyH.nil
        exact AllReadyH.nil
      exact AllReadyH.nil
    refine AllReadyH.cons (o := { dst := some 7, op := Op.buildSlice 24 0 #[], type := 24, pos := "ref.go:243", after := #[], guard := none }) rfl (fun K hK => ?_) ?_
    · refine step_build0 rfl rfl w1.heap.size (unhide F).size ?_
      intro spB uB oB gw
      have AP := hide ((Apart.none_right _).right gw (unhide OA))
      have OA := hide ((unhide OA).stayA (Apart.none_right _) gw)
      have F := hide ((unhide F).trans (GrewI.below gw (OwnI.ofNil _ w1.heap.size) (unhide F).size))
      have OB := hide oB
      clear oB gw
      refine hK.out _ _ ?_ (fun hHeld => ?_)
      · try dsimp only
        first | exact ⟨cell_later (unhide F) d0, cell_later (unhide F) d1⟩ | (have t0 := cell_later (unhide F) d0; have t1 := cell_later (unhide F) d1; go_keep)
      clear hK K
      try simp only [Act.put, List.setIfInBounds_toArray, List.set_cons_zero, List.set_cons_succ]
      refine wpAnyH_ready (rs := [3]) (by kernel_rfl) (by simp) ?_
      refine AllReadyH.cons (o := { dst := some 6, op := Op.call { callee := Callee.builtin Builtin.append, args := #[Operand.tmp 3, Operand.tmp 5], argTypes := #[24, 24] }, type := 24, pos := "ref.go:243", after := #[{ on := 0, ground := Ground.data }, { on := 2, ground := Ground.data }], guard := none }) rfl (fun K hK => ?_) ?_
      · refine step_appendI rfl (.tmp 3) (.tmp 5) rfl w1.heap.size spA 0 0 [] rfl rfl (unhide OA) va vn vc rfl v (unhide VN) ((unhide V).later (unhide F)) (unhide ZV) (by simp only [List.length_nil]; omega) (unhide F).size ?_
        intro spA2 nA cA uA2 hnA oA gw
        rw [List.nil_append] at hnA oA
        have NA := hide (show nA = vn from (unhide hnA).symm.trans (unhide VN))
        have OB := hide ((unhide OB).stayB (unhide AP) gw)
        have AP := hide ((unhide AP).left gw (by assumption))
        have F := hide ((unhide F).trans (GrewI.below gw (unhide OA) (unhide F).size))
        have OA := hide oA
        clear oA hnA gw
        refine hK.out _ _ ?_ (fun hHeld => ?_)
        · try dsimp only
          first | exact ⟨cell_later (unhide F) d0, cell_later (unhide F) d1⟩ | (have t0 := cell_later (unhide F) d0; have t1 := cell_later (unhide F) d1; go_keep)
        clear hK K
        try simp only [Act.put, List.setIfInBounds_toArray, List.set_cons_zero, List.set_cons_succ]
        refine wpAnyH_ready (rs := [7]) (by kernel_rfl) (by simp) ?_
        refine AllReadyH.cons (o := { dst := some 10, op := Op.call { callee := Callee.builtin Builtin.append, args := #[Operand.tmp 7, Operand.tmp 9], argTypes := #[24, 24] }, type := 24, pos := "ref.go:243", after := #[{ on := 4, ground := Ground.data }, { on := 6, ground := Ground.data }, { on := 3, ground := Ground.chain }], guard := none }) rfl (fun K hK => ?_) ?_
        · refine step_appendI rfl (.tmp 7) (.tmp 9) rfl w1.heap.size spB 0 0 [] rfl rfl (unhide OB) la ln lc rfl l (unhide LN) ((unhide L).later (unhide F)) (unhide ZL) (by simp only [List.length_nil]; omega) (unhide F).size ?_
          intro spB2 nB cB uB2 hnB oB gw
          rw [List.nil_append] at hnB oB
          have NB := hide (show nB = ln from (unhide hnB).symm.trans (unhide LN))
          have AP := hide ((unhide AP).right gw (unhide OA))
          have OA := hide ((unhide OA).stayA (by assumption) gw)
          have F := hide ((unhide F).trans (GrewI.below gw (unhide OB) (unhide F).size))
          have OB := hide oB
          clear oB hnB gw
          refine hK.out _ _ ?_ (fun hHeld => ?_)
          · try dsimp only
            first | exact ⟨cell_later (unhide F) d0, cell_later (unhide F) d1⟩ | (have t0 := cell_later (unhide F) d0; have t1 := cell_later (unhide F) d1; go_keep)
          clear hK K
          try simp only [Act.put, List.setIfInBounds_toArray, List.set_cons_zero, List.set_cons_succ]
          refine held_take 8 (oi := { dst := some 11, op := Op.build 26 #[(0, Operand.tmp 6), (1, Operand.tmp 10)], type := 26, pos := "ref.go:243", after := #[{ on := 3, ground := Ground.data }, { on := 7, ground := Ground.data }], guard := none }) (v := ?_) (by kernel_rfl) rfl (by rfl) (by kernel_rfl) (by kernel_rfl) (fun _ _ _ h => h) ?_ (by assumption) ?_
          rotate_left
          · (intro w hSw; (try dsimp only at hSw); go_simp; try with_reducible rfl)
          try simp only [Act.put, List.setIfInBounds_toArray, List.set_cons_zero, List.set_cons_succ]
          refine wpAnyH_ready (rs := [9]) (by kernel_rfl) (by simp) ?_
          refine AllReadyH.cons (o := { dst := none, op := Op.store 26 (Operand.tmp 2) (Operand.tmp 11), type := 0, pos := "ref.go:243", after := #[{ on := 8, ground := Ground.data }, { on := 7, ground := Ground.chain }, { on := 0, ground := Ground.phase }, { on := 1, ground := Ground.phase }, { on := 2, ground := Ground.phase }, { on := 3, ground := Ground.phase }, { on := 4, ground := Ground.phase }, { on := 5, ground := Ground.phase }, { on := 6, ground := Ground.phase }, { on := 7, ground := Ground.phase }, { on := 8, ground := Ground.phase }], guard := none }) rfl (fun K hK => ?_) ?_
          · have Y2 := hide (later_block (unhide F) (unhide Y1))
            have z0 := box_cell (unhide Y2) 0 _ rfl
            have z1 := box_cell (unhide Y2) 1 _ rfl
            have z2 := mbox_free (unhide Y2) 0
            have z3 := mbox_free (unhide Y2) 1
            go_simp
            refine hK.out _ _ ?_ (fun hHeld => ?_)
            · try dsimp only
              first | exact ⟨cell_later (unhide F) d0, cell_later (unhide F) d1⟩ | (have t0 := cell_later (unhide F) d0; have t1 := cell_later (unhide F) d1; go_keep)
            clear hK K
            try simp only [Act.put, List.setIfInBounds_toArray, List.set_cons_zero, List.set_cons_succ]
            refine wpAnyH_done (by kernel_rfl) ?_ _
            have NA' := unhide NA
            have NB' := unhide NB
            subst NA' NB'
            obtain ⟨W, y0, y1, gW, hW⟩ := two_sets (unhide Y2) (.slice spA2 nA cA) (.slice spB2 nB cB)
            rw [hW]
            have OA := hide ((unhide OA).kept gW (fun g hg e => by have h1 := ((unhide OA).blk_lt g hg).1; have h2 := Option.some.inj e; have h3 := unhide ZE; omega))
            have OB := hide ((unhide OB).kept gW (fun g hg e => by have h1 := ((unhide OB).blk_lt g hg).1; have h2 := Option.some.inj e; have h3 := unhide ZE; omega))
            have FB := hide ((unhide b1).trans ((Below.grown ((unhide F).mono (by have := unhide ZE; omega) : Below D w1 _) gW (by have := (unhide F).size; have := unhide ZE; omega) (fun g e => by have := Option.some.inj e; omega))))
            clear hW gW
            go_wp2
            refine bodyPost_ret (v := mV spA2 nA cA spB2 nB cB) (by simp [results, Tryz.results49, go_sem, y0, y1]) rfl ?_
            exact ⟨spA2, cA, spB2, cB, rfl, (unhide OA).mono (by have := unhide ZE; omega), (unhide OB).mono (by have := unhide ZE; omega), unhide AP, by first | exact unhide FB | (rw [hD]; exact unhide FB)⟩
          exact AllReadyH.nil
        exact AllReadyH.nil
      exact AllReadyH.nil
    exact AllReadyH.nil
  refine AllReadyH.cons (o := { dst := some 7, op := Op.buildSlice 24 0 #[], type := 24, pos := "ref.go:243", after := #[], guard := none }) rfl (fun K hK => ?_) ?_
  · refine step_build0 rfl rfl w1.heap.size (unhide F).size ?_
    intro spB uB oB gw
    have AP := hide ((Apart.none_right _).right gw (unhide OA))
    have OA := hide ((unhide OA).stayA (Apart.none_right _) gw)
    have F := hide ((unhide F).trans (GrewI.below gw (OwnI.ofNil _ w1.heap.size) (unhide F).size))
    have OB := hide oB
    clear oB gw
    refine hK.out _ _ ?_ (fun hHeld => ?_)
    · try dsimp only
      first | exact ⟨cell_later (unhide F) d0, cell_later (unhide F) d1⟩ | (have t0 := cell_later (unhide F) d0; have t1 := cell_later (unhide F) d1; go_keep)
    clear hK K
    try simp only [Act.put, List.setIfInBounds_toArray, List.set_cons_zero, List.set_cons_succ]
    refine wpAnyH_ready (rs := [0]) (by kernel_rfl) (by simp) ?_
    refine AllReadyH.cons (o := { dst := some 3, op := Op.buildSlice 24 0 #[], type := 24, pos := "ref.go:243", after := #[], guard := none }) rfl (fun K hK => ?_) ?_
    · refine step_build0 rfl rfl w1.heap.size (unhide F).size ?_
      intro spA uA oA gw
      have AP := hide ((Apart.none_left _).left gw (unhide OB))
      have OB := hide ((unhide OB).stayB (Apart.none_left _) gw)
      have F := hide ((unhide F).trans (GrewI.below gw (OwnI.ofNil _ w1.heap.size) (unhide F).size))
      have OA := hide oA
      clear oA gw
      refine hK.out _ _ ?_ (fun hHeld => ?_)
      · try dsimp only
        first | exact ⟨cell_later (unhide F) d0, cell_later (unhide F) d1⟩ | (have t0 := cell_later (unhide F) d0; have t1 := cell_later (unhide F) d1; go_keep)
      clear hK K
      try simp only [Act.put, List.setIfInBounds_toArray, List.set_cons_zero, List.set_cons_succ]
      refine wpAnyH_ready (rs := [3]) (by kernel_rfl) (by simp) ?_
      refine AllReadyH.cons (o := { dst := some 6, op := Op.call { callee := Callee.builtin Builtin.append, args := #[Operand.tmp 3, Operand.tmp 5], argTypes := #[24, 24] }, type := 24, pos := "ref.go:243", after := #[{ on := 0, ground := Ground.data }, { on := 2, ground := Ground.data }], guard := none }) rfl (fun K hK => ?_) ?_
      · refine step_appendI rfl (.tmp 3) (.tmp 5) rfl w1.heap.size spA 0 0 [] rfl rfl (unhide OA) va vn vc rfl v (unhide VN) ((unhide V).later (unhide F)) (unhide ZV) (by simp only [List.length_nil]; omega) (unhide F).size ?_
        intro spA2 nA cA uA2 hnA oA gw
        rw [List.nil_append] at hnA oA
        have NA := hide (show nA = vn from (unhide hnA).symm.trans (unhide VN))
        have OB := hide ((unhide OB).stayB (unhide AP) gw)
        have AP := hide ((unhide AP).left gw (by assumption))
        have F := hide ((unhide F).trans (GrewI.below gw (unhide OA) (unhide F).size))
        have OA := hide oA
        clear oA hnA gw
        refine hK.out _ _ ?_ (fun hHeld => ?_)
        · try dsimp only
          first | exact ⟨cell_later (unhide F) d0, cell_later (unhide F) d1⟩ | (have t0 := cell_later (unhide F) d0; have t1 := cell_later (unhide F) d1; go_keep)
        clear hK K
        try simp only [Act.put, List.setIfInBounds_toArray, List.set_cons_zero, List.set_cons_succ]
        refine wpAnyH_ready (rs := [7]) (by kernel_rfl) (by simp) ?_
        refine AllReadyH.cons (o := { dst := some 10, op := Op.call { callee := Callee.builtin Builtin.append, args := #[Operand.tmp 7, Operand.tmp 9], argTypes := #[24, 24] }, type := 24, pos := "ref.go:243", after := #[{ on := 4, ground := Ground.data }, { on := 6, ground := Ground.data }, { on := 3, ground := Ground.chain }], guard := none }) rfl (fun K hK => ?_) ?_
        · refine step_appendI rfl (.tmp 7) (.tmp 9) rfl w1.heap.size spB 0 0 [] rfl rfl (unhide OB) la ln lc rfl l (unhide LN) ((unhide L).later (unhide F)) (unhide ZL) (by simp only [List.length_nil]; omega) (unhide F).size ?_
          intro spB2 nB cB uB2 hnB oB gw
          rw [List.nil_append] at hnB oB
          have NB := hide (show nB = ln from (unhide hnB).symm.trans (unhide LN))
          have AP := hide ((unhide AP).right gw (unhide OA))
          have OA := hide ((unhide OA).stayA (by assumption) gw)
          have F := hide ((unhide F).trans (GrewI.below gw (unhide OB) (unhide F).size))
          have OB := hide oB
          clear oB hnB gw
          refine hK.out _ _ ?_ (fun hHeld => ?_)
          · try dsimp only
            first | exact ⟨cell_later (unhide F) d0, cell_later (unhide F) d1⟩ | (have t0 := cell_later (unhide F) d0; have t1 := cell_later (unhide F) d1; go_keep)
          clear hK K
          try simp only [Act.put, List.setIfInBounds_toArray, List.set_cons_zero, List.set_cons_succ]
          refine held_take 8 (oi := { dst := some 11, op := Op.build 26 #[(0, Operand.tmp 6), (1, Operand.tmp 10)], type := 26, pos := "ref.go:243", after := #[{ on := 3, ground := Ground.data }, { on := 7, ground := Ground.data }], guard := none }) (v := ?_) (by kernel_rfl) rfl (by rfl) (by kernel_rfl) (by kernel_rfl) (fun _ _ _ h => h) ?_ (by assumption) ?_
          rotate_left
          · (intro w hSw; (try dsimp only at hSw); go_simp; try with_reducible rfl)
          try simp only [Act.put, List.setIfInBounds_toArray, List.set_cons_zero, List.set_cons_succ]
          refine wpAnyH_ready (rs := [9]) (by kernel_rfl) (by simp) ?_
          refine AllReadyH.cons (o := { dst := none, op := Op.store 26 (Operand.tmp 2) (Operand.tmp 11), type := 0, pos := "ref.go:243", after := #[{ on := 8, ground := Ground.data }, { on := 7, ground := Ground.chain }, { on := 0, ground := Ground.phase }, { on := 1, ground := Ground.phase }, { on := 2, ground := Ground.phase }, { on := 3, ground := Ground.phase }, { on := 4, ground := Ground.phase }, { on := 5, ground := Ground.phase }, { on := 6, ground := Ground.phase }, { on := 7, ground := Ground.phase }, { on := 8, ground := Ground.phase }], guard := none }) rfl (fun K hK => ?_) ?_
          · have Y2 := hide (later_block (unhide F) (unhide Y1))
            have z0 := box_cell (unhide Y2) 0 _ rfl
            have z1 := box_cell (unhide Y2) 1 _ rfl
            have z2 := mbox_free (unhide Y2) 0
            have z3 := mbox_free (unhide Y2) 1
            go_simp
            refine hK.out _ _ ?_ (fun hHeld => ?_)
            · try dsimp only
              first | exact ⟨cell_later (unhide F) d0, cell_later (unhide F) d1⟩ | (have t0 := cell_later (unhide F) d0; have t1 := cell_later (unhide F) d1; go_keep)
            clear hK K
            try simp only [Act.put, List.setIfInBounds_toArray, List.set_cons_zero, List.set_cons_succ]
            refine wpAnyH_done (by kernel_rfl) ?_ _
            have NA' := unhide NA
            have NB' := unhide NB
            subst NA' NB'
            obtain ⟨W, y0, y1, gW, hW⟩ := two_sets (unhide Y2) (.slice spA2 nA cA) (.slice spB2 nB cB)
            rw [hW]
            have OA := hide ((unhide OA).kept gW (fun g hg e => by have h1 := ((unhide OA).blk_lt g hg).1; have h2 := Option.some.inj e; have h3 := unhide ZE; omega))
            have OB := hide ((unhide OB).kept gW (fun g hg e => by have h1 := ((unhide OB).blk_lt g hg).1; have h2 := Option.some.inj e; have h3 := unhide ZE; omega))
            have FB := hide ((unhide b1).trans ((Below.grown ((unhide F).mono (by have := unhide ZE; omega) : Below D w1 _) gW (by have := (unhide F).size; have := unhide ZE; omega) (fun g e => by have := Option.some.inj e; omega))))
            clear hW gW
            go_wp2
            refine bodyPost_ret (v := mV spA2 nA cA spB2 nB cB) (by simp [results, Tryz.results49, go_sem, y0, y1]) rfl ?_
            exact ⟨spA2, cA, spB2, cB, rfl, (unhide OA).mono (by have := unhide ZE; omega), (unhide OB).mono (by have := unhide ZE; omega), unhide AP, by first | exact unhide FB | (rw [hD]; exact unhide FB)⟩
          exact AllReadyH.nil
        exact AllReadyH.nil
      exact AllReadyH.nil
    exact AllReadyH.nil
  exact AllReadyH.nil
end
end Go.Proofs.YtagncghpfdjkmaaGreatDoor
end
/- The contracts of the document's answers of layer 2: Number. -/
section
namespace Go.Proofs.YtagncghpfdjkmaaGreatDoor
open Go.ChangeShapes Go.WideShapes Go.ChangeAt Go.RowKit

set_option maxRecDepth 20000 in
set_option maxHeartbeats 1000000 in
theorem refNumber_yes (n : Nat) (w : World) (hn : n ≤ 1099511627776) :
    Calls Tryz.prog 102 #[.int .i64 (n : Int)] w fun e w' => ∃ sp n' c', e = .returned (.tuple #[.slice sp n' c', .int .i64 0]) ∧ Hid ((numB n).length = n') ∧ OwnB w.heap.size w' sp c' (numB n) ∧ Below w.heap.size w w' := by
  have HLen := hide (show (numB n).length ≤ 2199023255553 by have := (numB_length n).2; omega)
  have o1 := hide (OwnB.empty w w.heap.size (Nat.le_refl _))
  have b1 := hide (show Below w.heap.size w (w.alloc (.cells #[] 5)) from (Below.refl _ _).alloc (Nat.le_refl _) _)
  go_enter Tryz.func102, Tryz.ntmps102
  go_wp2
  go_loopw [0, 4] (fun i v wr => ∃ (sp' : Option Addr) (n' c' : Nat) (l' : List Nat) (m : Nat), m ≤ 1099511627776 ∧ v = .slice sp' n' c' ∧ i = .int .i64 (m : Int) ∧ Hid (l'.length = n') ∧ Hid (OwnB w.heap.size wr sp' c' l') ∧ Hid (l' ++ numB m = numB n) ∧ Hid (Below w.heap.size w wr)) (fun i _ _ => (intOf i).toNat)
  case atStart => exact ⟨_, 0, 0, [], n, hn, rfl, rfl, rfl, unhide o1, by simp [Hid], unhide b1⟩
  case round =>
    obtain ⟨sp', n', c', l', m, hm, rfl, rfl, hl', ho', heq, hbw⟩ := hrel
    have hlen' := hide (show l'.length + 1 ≤ 140737488355328 by
      have h1 := unhide HLen
      rw [← unhide heq, List.length_append] at h1
      have := (numB_length m).1
      omega)
    have hbr := hide (show w.heap.size ≤ wr.heap.size from (unhide hbw).size)
    by_cases h128 : m < 128
    · have hlit := hide (bytesAt_block (l := [m]) (heap_new wr (.cells #[.int .u8 (m : Int)] 5)) (by intro c hc; simp only [List.mem_cons, List.not_mem_nil, or_false] at hc; omega))
      have bA := hide (show Below wr.heap.size wr (wr.alloc (.cells #[.int .u8 (m : Int)] 5)) from (Below.refl _ _).alloc (Nat.le_refl _) _)
      have heq' := hide (show l' ++ [m] = numB n by rw [← unhide heq, numB_small h128])
      have hmod : (m : Int) % 128 = (m : Int) := by omega
      have hdiv : (m : Int) / 128 = 0 := by omega
      go_wp2_with (at_builtin; refine wpList_append8 rfl (.tmp 19) (.tmp 22) rfl w.heap.size sp' n' c' l' rfl (unhide hl') (by exact (unhide ho').later (unhide bA)) (some ⟨wr.heap.size, 0, none⟩) 1 1 rfl [m] rfl (by exact unhide hlit) (fun h => by cases h) (unhide hlen') (by exact Nat.le_trans (unhide hbr) (unhide bA).size) ?_; intro sp2 n2 c2 W2 hn2 ho2 hg2 hb2)
      rw [unhide heq'] at hn2 ho2
      go_ret2
      exact ⟨sp2, n2, c2, rfl, hn2, ho2, ((unhide hbw).trans ((unhide bA).mono (unhide hbr))).trans hb2⟩
    · obtain ⟨q, hq⟩ : ∃ q, q = m % 128 + 128 := ⟨_, rfl⟩
      obtain ⟨d, hd⟩ : ∃ d, d = m / 128 := ⟨_, rfl⟩
      have hlit := hide (bytesAt_block (l := [q]) (heap_new wr (.cells #[.int .u8 (q : Int)] 5)) (by intro c hc; simp only [List.mem_cons, List.not_mem_nil, or_false] at hc; omega))
      have bA := hide (show Below wr.heap.size wr (wr.alloc (.cells #[.int .u8 (q : Int)] 5)) from (Below.refl _ _).alloc (Nat.le_refl _) _)
      have heq' := hide (show l' ++ [q] ++ numB d = numB n by rw [← unhide heq, numB_great h128, hq, hd, List.append_assoc]; rfl)
      have hmod : (m : Int) % 128 + 128 = (q : Int) := by omega
      have hdiv : (m : Int) / 128 = (d : Int) := by omega
      have hd0 : ¬ (d : Int) = 0 := by omega
      have hq256 : (q : Int) < 256 := by omega
      have HD := hide hd
      have HQ := hide hq
      clear hd hq
      go_wp2_with (at_builtin; refine wpList_append8 rfl (.tmp 24) (.tmp 28) rfl w.heap.size sp' n' c' l' rfl (unhide hl') (by exact (unhide ho').later (unhide bA)) (some ⟨wr.heap.size, 0, none⟩) 1 1 rfl [q] rfl (by exact unhide hlit) (fun h => by cases h) (unhide hlen') (by exact Nat.le_trans (unhide hbr) (unhide bA).size) ?_; intro sp2 n2 c2 W2 hn2 ho2 hg2 hb2)
      have hbn := ((unhide hbw).trans ((unhide bA).mono (unhide hbr))).trans hb2
      exact ⟨⟨sp2, n2, c2, l' ++ [q], d, by have := unhide HD; omega, rfl, rfl, hn2, ho2, unhide heq', hbn⟩, by have := unhide HD; simp [intOf]; omega⟩
end Go.Proofs.YtagncghpfdjkmaaGreatDoor
end
