/- Snapshots: the document's Copy. -/
import Derived.Test.YtagncghpfdjkmaaGreatDoorB32
import Derived.Test.YtagncghpfdjkmaaGreatDoorB31
import Derived.Test.YtagncghpfdjkmaaGreatDoorB12
namespace Go.Proofs.YtagncghpfdjkmaaGreatDoor
open Go.ChangeShapes Go.WideShapes Go.ChangeAt Go.RowKit
set_option linter.unusedVariables false

theorem blk_adr {sp : Option Addr} {g : Nat} (h : blk sp = some g) : ∃ ad, sp = some ad ∧ ad.block = g := by
  cases sp with
  | none => cases h
  | some ad => exact ⟨ad, rfl, Option.some.inj h⟩
theorem OwnB.blkLt {base : Nat} {V : World} {sp : Option Addr} {cc : Nat} {l : List Nat} (x : OwnB base V sp cc l) : ∀ g, blk sp = some g → g < V.heap.size := by
  intro g e
  obtain ⟨ad, rfl, rfl⟩ := blk_adr e
  rcases x.owns.2 with ⟨hv, _⟩ | ⟨g, cap, cur, hv, hb, hh, _⟩
  · simp only [Value.slice.injEq] at hv
    cases hv.1
  · simp only [Value.slice.injEq] at hv
    rw [Option.some.inj hv.1]
    exact (Array.getElem?_eq_some_iff.1 hh).1
theorem apart_old {base : Nat} {u u' : World} {sp spA : Option Addr} {c cA : Nat} {l : List Nat} {v : List Int} (o : OwnB base u sp c l) (oa : OwnI u.heap.size u' spA cA v) : Apart sp spA := fun g h1 h2 => by
  have := o.blkLt g h1
  obtain ⟨ad, e, rfl⟩ := blk_adr h2
  have := oa.adr ad e
  omega
theorem apart_new {b : Nat} {u u' : World} {sp spA : Option Addr} {c cA : Nat} {l : List Nat} {v : List Int} (o : OwnB u.heap.size u' sp c l) (oa : OwnI b u spA cA v) : Apart sp spA := fun g h1 h2 => by
  have := (oa.blk_lt g h2).2
  obtain ⟨ad, e, rfl⟩ := blk_adr h1
  have := o.adr ad e
  omega
set_option maxRecDepth 20000 in
set_option maxHeartbeats 8000000 in
theorem scopy_calls (s : Sn) (h : SnH) (w : World) (hs : SnAt w s h) (hw : SnS s h) : Calls Tryz.prog 14 #[.agg (snRow s h)] w fun e w' => ∃ h', e = .returned (.agg (snRow s h')) ∧ SnAt w' s h' ∧ Below w.heap.size w w' := by
  unfold snRow
  have hdn := hs.dn
  have hdm := hw.d
  generalize hvl : s.v.length = vn at *
  generalize hll : s.l.length = ln at *
  generalize hdl : s.d.length = dn at *
  have A1 : Below w.heap.size w (w.alloc (.cells #[.int .i64 s.i, .int .i64 s.t, .slice h.va vn h.vc, .slice h.la ln h.lc, .slice h.dp dn h.dc] 29)) := (Below.refl _ _).alloc (Nat.le_refl _) _
  have A2 : Below (w.alloc (.cells #[.int .i64 s.i, .int .i64 s.t, .slice h.va vn h.vc, .slice h.la ln h.lc, .slice h.dp dn h.dc] 29)).heap.size (w.alloc (.cells #[.int .i64 s.i, .int .i64 s.t, .slice h.va vn h.vc, .slice h.la ln h.lc, .slice h.dp dn h.dc] 29)) ((w.alloc (.cells #[.int .i64 s.i, .int .i64 s.t, .slice h.va vn h.vc, .slice h.la ln h.lc, .slice h.dp dn h.dc] 29)).alloc (.cells #[.int .i64 0, .int .i64 0, .slice none 0 0, .slice none 0 0, .slice none 0 0] 29)) := (Below.refl _ _).alloc (Nat.le_refl _) _
  have hs1 : (w.alloc (.cells #[.int .i64 s.i, .int .i64 s.t, .slice h.va vn h.vc, .slice h.la ln h.lc, .slice h.dp dn h.dc] 29)).heap.size = w.heap.size + 1 := by simp
  have X1 := hide (later_block A2 (heap_new w (.cells #[.int .i64 s.i, .int .i64 s.t, .slice h.va vn h.vc, .slice h.la ln h.lc, .slice h.dp dn h.dc] 29)))
  have Y1 := hide (heap_new (w.alloc (.cells #[.int .i64 s.i, .int .i64 s.t, .slice h.va vn h.vc, .slice h.la ln h.lc, .slice h.dp dn h.dc] 29)) (.cells #[.int .i64 0, .int .i64 0, .slice none 0 0, .slice none 0 0, .slice none 0 0] 29))
  rw [hs1] at Y1
  have B2 := hide (A1.trans (A2.mono A1.size))
  have SZ := hide (show ((w.alloc (.cells #[.int .i64 s.i, .int .i64 s.t, .slice h.va vn h.vc, .slice h.la ln h.lc, .slice h.dp dn h.dc] 29)).alloc (.cells #[.int .i64 0, .int .i64 0, .slice none 0 0, .slice none 0 0, .slice none 0 0] 29)).heap.size = w.heap.size + 2 by simp)
  have HS := hide (hs.later (unhide B2))
  have HW := hide hw
  have VL := hide hvl
  have LL := hide hll
  have DL := hide hdl
  clear A1 A2 hs1 hs hw hvl hll hdl
  go_enter Tryz.func14, Tryz.ntmps14
  go_wp2_with fail
  generalize (w.alloc (.cells #[.int .i64 s.i, .int .i64 s.t, .slice h.va vn h.vc, .slice h.la ln h.lc, .slice h.dp dn h.dc] 29)).alloc (.cells #[.int .i64 0, .int .i64 0, .slice none 0 0, .slice none 0 0, .slice none 0 0] 29) = W1 at *
  generalize hD : w.heap.size = D at *
  have KX := hide (show ∀ V, Below W1.heap.size W1 V → V.heap[D]? = some (.cells #[.int .i64 s.i, .int .i64 s.t, .slice h.va vn h.vc, .slice h.la ln h.lc, .slice h.dp dn h.dc] 29 (0, 0)) ∧ V.heap[D + 1]? = some (.cells #[.int .i64 0, .int .i64 0, .slice none 0 0, .slice none 0 0, .slice none 0 0] 29 (0, 0)) from fun V u => ⟨later_block u (unhide X1), later_block u (unhide Y1)⟩)
  have CC := hide (show ∀ V, Below W1.heap.size W1 V → Calls Tryz.prog 49 #[mV h.va vn h.vc h.la ln h.lc] V fun e w' => ∃ spA cA spB cB, e = .returned (mV spA vn cA spB ln cB) ∧ OwnI V.heap.size w' spA cA s.v ∧ OwnI V.heap.size w' spB cB s.l ∧ Apart spA spB ∧ Below V.heap.size V w' from fun V u => copy_calls ((unhide HS).v.later u) ((unhide HS).l.later u) vn ln (unhide VL) (unhide LL) (by have := (unhide HW).v; rw [unhide VL] at this; exact this) (by have := (unhide HW).l; rw [unhide LL] at this; exact this) (unhide HW).vz (unhide HW).lz)
  have DB := hide (show ∀ V, Below W1.heap.size W1 V → BytesAt V h.dp s.d from fun V u => (unhide HS).d.later u)
  have F := hide (show Below W1.heap.size W1 W1.drew from (Below.refl _ _).drew)
  clear X1 Y1
  refine wp_region_held_drew (S := fun w' => w'.cell? ⟨D, 0, none⟩ = some (.int .i64 s.i) ∧ w'.cell? ⟨D, 1, none⟩ = some (.int .i64 s.t) ∧ w'.cell? ⟨D, 2, none⟩ = some (.slice h.va vn h.vc) ∧ w'.cell? ⟨D, 3, none⟩ = some (.slice h.la ln h.lc) ∧ w'.cell? ⟨D, 4, none⟩ = some (.slice h.dp dn h.dc)) (by kernel_rfl) ?_ (fun hHeld => ?_)
  · try dsimp only
    first | exact unhide GK | exact ⟨box_cell (unhide KX _ (unhide F)).1 0 _ rfl, box_cell (unhide KX _ (unhide F)).1 1 _ rfl, box_cell (unhide KX _ (unhide F)).1 2 _ rfl, box_cell (unhide KX _ (unhide F)).1 3 _ rfl, box_cell (unhide KX _ (unhide F)).1 4 _ rfl⟩
  refine held_take 0 (oi := { dst := some 3, op := Op.fieldAddr 29 (Operand.tmp 1) 0, type := 0, pos := "ref.go:231", after := #[], guard := none }) (v := ?_) (by kernel_rfl) rfl (by rfl) (by kernel_rfl) (by kernel_rfl) (fun _ _ _ h => h) ?_ (by assumption) ?_
  rotate_left
  · (intro w hSw; (try dsimp only at hSw); go_simp; try with_reducible rfl)
  try simp only [Act.put, List.setIfInBounds_toArray, List.set_cons_zero, List.set_cons_succ]
  refine held_take 1 (oi := { dst := some 4, op := Op.load 23 (Operand.tmp 3), type := 23, pos := "ref.go:231", after := #[{ on := 0, ground := Ground.data }], guard := none }) (v := ?_) (by kernel_rfl) rfl (by rfl) (by kernel_rfl) (by kernel_rfl) (fun _ _ _ h => h) ?_ (by assumption) ?_
  rotate_left
  · (intro w hSw; (try dsimp only at hSw); go_simp; try with_reducible rfl)
  try simp only [Act.put, List.setIfInBounds_toArray, List.set_cons_zero, List.set_cons_succ]
  refine held_take 2 (oi := { dst := some 5, op := Op.fieldAddr 29 (Operand.tmp 1) 1, type := 0, pos := "ref.go:231", after := #[], guard := none }) (v := ?_) (by kernel_rfl) rfl (by rfl) (by kernel_rfl) (by kernel_rfl) (fun _ _ _ h => h) ?_ (by assumption) ?_
  rotate_left
  · (intro w hSw; (try dsimp only at hSw); go_simp; try with_reducible rfl)
  try simp only [Act.put, List.setIfInBounds_toArray, List.set_cons_zero, List.set_cons_succ]
  refine held_take 3 (oi := { dst := some 6, op := Op.load 26 (Operand.tmp 5), type := 26, pos := "ref.go:231", after := #[{ on := 2, ground := Ground.data }], guard := none }) (v := ?_) (by kernel_rfl) rfl (by rfl) (by kernel_rfl) (by kernel_rfl) (fun _ _ _ h => h) ?_ (by assumption) ?_
  rotate_left
  · (intro w hSw; (try dsimp only at hSw); go_simp; try with_reducible rfl)
  try simp only [Act.put, List.setIfInBounds_toArray, List.set_cons_zero, List.set_cons_succ]
  refine held_take 6 (oi := { dst := some 9, op := Op.fieldAddr 29 (Operand.tmp 1) 2, type := 0, pos := "ref.go:231", after := #[], guard := none }) (v := ?_) (by kernel_rfl) rfl (by rfl) (by kernel_rfl) (by kernel_rfl) (fun _ _ _ h => h) ?_ (by assumption) ?_
  rotate_left
  · (intro w hSw; (try dsimp only at hSw); go_simp; try with_reducible rfl)
  try simp only [Act.put, List.setIfInBounds_toArray, List.set_cons_zero, List.set_cons_succ]
  refine held_take 7 (oi := { dst := some 10, op := Op.load 27 (Operand.tmp 9), type := 27, pos := "ref.go:231", after := #[{ on := 6, ground := Ground.data }], guard := none }) (v := ?_) (by kernel_rfl) rfl (by rfl) (by kernel_rfl) (by kernel_rfl) (fun _ _ _ h => h) ?_ (by assumption) ?_
  rotate_left
  · (intro w hSw; (try dsimp only at hSw); go_simp; try with_reducible rfl)
  try simp only [Act.put, List.setIfInBounds_toArray, List.set_cons_zero, List.set_cons_succ]
  refine wpAnyH_ready (rs := [4, 5]) (by kernel_rfl) (by simp) ?_
  refine AllReadyH.cons (o := { dst := some 7, op := Op.call { callee := Callee.value (Operand.func 49), args := #[Operand.tmp 6], argTypes := #[26] }, type := 26, pos := "ref.go:231", after := #[{ on := 3, ground := Ground.data }], guard := none }) rfl (fun K hK => ?_) ?_
  · go_simp
    refine (unhide CC _ (unhide F)).mono ?_
    rintro e W4 ⟨spA, cA, spB, cB, rfl, oA, oB, ap, b4⟩
    have LB := hide (unhide F).size
    have F := hide ((unhide F).trans (b4.mono (unhide F).size))
    first | (have AA := hide (apart_old (unhide O2) oA); have AB := hide (apart_old (unhide O2) oB); have O2 := hide ((unhide O2).later b4)) | skip
    first | (have OD := hide ((unhide OD).later b4)) | skip
    have OA := hide (oA.mono (unhide LB))
    have OB := hide (oB.mono (unhide LB))
    clear oA oB ap b4 LB
    go_wp2_with fail
    refine hK.out _ _ ?_ (fun hHeld => ?_)
    · try dsimp only
      first | exact unhide GK | exact ⟨box_cell (unhide KX _ (unhide F)).1 0 _ rfl, box_cell (unhide KX _ (unhide F)).1 1 _ rfl, box_cell (unhide KX _ (unhide F)).1 2 _ rfl, box_cell (unhide KX _ (unhide F)).1 3 _ rfl, box_cell (unhide KX _ (unhide F)).1 4 _ rfl⟩
    clear hK K
    try simp only [Act.put, List.setIfInBounds_toArray, List.set_cons_zero, List.set_cons_succ]
    refine wpAnyH_ready (rs := [5]) (by kernel_rfl) (by simp) ?_
    refine AllReadyH.cons (o := { dst := some 8, op := Op.buildSlice 27 0 #[], type := 27, pos := "ref.go:231", after := #[], guard := none }) rfl (fun K hK => ?_) ?_
    · refine step_build8 rfl rfl _ (Nat.le_refl _) ?_
      intro sp2 W2 ho2 hb2
      first | (have AA := hide (apart_new ho2 (unhide OA)); have AB := hide (apart_new ho2 (unhide OB)); have OA := hide ((unhide OA).later hb2); have OB := hide ((unhide OB).later hb2)) | skip
      have LB := hide (unhide F).size
      have F := hide ((unhide F).trans (hb2.mono (unhide F).size))
      have O2 := hide (ho2.mono (unhide LB))
      clear ho2 hb2 LB
      refine hK.out _ _ ?_ (fun hHeld => ?_)
      · try dsimp only
        first | exact unhide GK | exact ⟨box_cell (unhide KX _ (unhide F)).1 0 _ rfl, box_cell (unhide KX _ (unhide F)).1 1 _ rfl, box_cell (unhide KX _ (unhide F)).1 2 _ rfl, box_cell (unhide KX _ (unhide F)).1 3 _ rfl, box_cell (unhide KX _ (unhide F)).1 4 _ rfl⟩
      clear hK K
      try simp only [Act.put, List.setIfInBounds_toArray, List.set_cons_zero, List.set_cons_succ]
      refine wpAnyH_ready (rs := [8]) (by kernel_rfl) (by simp) ?_
      refine AllReadyH.cons (o := { dst := some 11, op := Op.call { callee := Callee.builtin Builtin.append, args := #[Operand.tmp 8, Operand.tmp 10], argTypes := #[27, 27] }, type := 27, pos := "ref.go:231", after := #[{ on := 5, ground := Ground.data }, { on := 7, ground := Ground.data }, { on := 4, ground := Ground.chain }], guard := none }) rfl (fun K hK => ?_) ?_
      · refine step_append8L rfl (.tmp 8) (.tmp 10) rfl W1.heap.size sp2 0 0 [] rfl rfl (unhide O2) h.dp dn h.dc rfl s.d (unhide DL) (unhide DB _ (unhide F)) (unhide HS).dz (by simp only [List.length_nil]; omega) (unhide F).size ?_
        intro spD nD cD W8 hnD hoD hgD hlD
        rw [List.nil_append] at hnD hoD
        first | (have OA := hide ((unhide OA).stayB (unhide AA) ⟨hgD, hlD⟩); have OB := hide ((unhide OB).stayB (unhide AB) ⟨hgD, hlD⟩)) | skip
        have F := hide ((unhide F).trans (Grew.below ⟨hgD, hlD⟩ (unhide O2) (unhide F).size))
        have OD := hide hoD
        have ND := hide (show nD = dn from (unhide hnD).symm.trans (unhide DL))
        clear hoD hnD hgD hlD O2
        refine hK.out _ _ ?_ (fun hHeld => ?_)
        · try dsimp only
          first | exact unhide GK | exact ⟨box_cell (unhide KX _ (unhide F)).1 0 _ rfl, box_cell (unhide KX _ (unhide F)).1 1 _ rfl, box_cell (unhide KX _ (unhide F)).1 2 _ rfl, box_cell (unhide KX _ (unhide F)).1 3 _ rfl, box_cell (unhide KX _ (unhide F)).1 4 _ rfl⟩
        clear hK K
        try simp only [Act.put, List.setIfInBounds_toArray, List.set_cons_zero, List.set_cons_succ]
        refine held_take 9 (oi := { dst := some 12, op := Op.build 29 #[(0, Operand.tmp 4), (1, Operand.tmp 7), (2, Operand.tmp 11)], type := 29, pos := "ref.go:231", after := #[{ on := 1, ground := Ground.data }, { on := 4, ground := Ground.data }, { on := 8, ground := Ground.data }], guard := none }) (v := ?_) (by kernel_rfl) rfl (by rfl) (by kernel_rfl) (by kernel_rfl) (fun _ _ _ h => h) ?_ (by assumption) ?_
        rotate_left
        · (intro w hSw; (try dsimp only at hSw); go_simp; try with_reducible rfl)
        try simp only [Act.put, List.setIfInBounds_toArray, List.set_cons_zero, List.set_cons_succ]
        refine wpAnyH_ready (rs := [10]) (by kernel_rfl) (by simp) ?_
        refine AllReadyH.cons (o := { dst := none, op := Op.store 29 (Operand.tmp 2) (Operand.tmp 12), type := 0, pos := "ref.go:231", after := #[{ on := 9, ground := Ground.data }, { on := 8, ground := Ground.chain }, { on := 0, ground := Ground.phase }, { on := 1, ground := Ground.phase }, { on := 2, ground := Ground.phase }, { on := 3, ground := Ground.phase }, { on := 4, ground := Ground.phase }, { on := 5, ground := Ground.phase }, { on := 6, ground := Ground.phase }, { on := 7, ground := Ground.phase }, { on := 8, ground := Ground.phase }, { on := 9, ground := Ground.phase }], guard := none }) rfl (fun K hK => ?_) ?_
        · have ND' := unhide ND
          subst ND'
          obtain ⟨W, hr, gW, hW⟩ := five_sets (unhide KX _ (unhide F)).2 (.int .i64 s.i) (.int .i64 s.t) (.slice spA vn cA) (.slice spB ln cB) (.slice spD nD cD)
          have HWW := hide hW
          have HR := hide hr
          have GW := hide gW
          have key : ∀ k v, _ → W.cell? ⟨D, k, none⟩ = some v := fun k v (hc : _ = some v) => (World.cell?_of_block (a := ⟨D, k, none⟩) (gW.block D (Array.getElem?_eq_some_iff.1 (unhide KX _ (unhide F)).1).1 (fun e => by have h1 := Option.some.inj e; omega))).trans hc
          have GK := hide (show W.cell? ⟨D, 0, none⟩ = some (.int .i64 s.i) ∧ W.cell? ⟨D, 1, none⟩ = some (.int .i64 s.t) ∧ W.cell? ⟨D, 2, none⟩ = some (.slice h.va vn h.vc) ∧ W.cell? ⟨D, 3, none⟩ = some (.slice h.la ln h.lc) ∧ W.cell? ⟨D, 4, none⟩ = some (.slice h.dp nD h.dc) from ⟨key 0 _ (box_cell (unhide KX _ (unhide F)).1 0 _ rfl), key 1 _ (box_cell (unhide KX _ (unhide F)).1 1 _ rfl), key 2 _ (box_cell (unhide KX _ (unhide F)).1 2 _ rfl), key 3 _ (box_cell (unhide KX _ (unhide F)).1 3 _ rfl), key 4 _ (box_cell (unhide KX _ (unhide F)).1 4 _ rfl)⟩)
          have z0 := box_cell (unhide KX _ (unhide F)).2 0 _ rfl
          have z1 := box_cell (unhide KX _ (unhide F)).2 1 _ rfl
          have z2 := box_cell (unhide KX _ (unhide F)).2 2 _ rfl
          have z3 := box_cell (unhide KX _ (unhide F)).2 3 _ rfl
          have z4 := box_cell (unhide KX _ (unhide F)).2 4 _ rfl
          have f0 := mbox_free (unhide KX _ (unhide F)).2 0
          have f1 := mbox_free (unhide KX _ (unhide F)).2 1
          have f2 := mbox_free (unhide KX _ (unhide F)).2 2
          have f3 := mbox_free (unhide KX _ (unhide F)).2 3
          have f4 := mbox_free (unhide KX _ (unhide F)).2 4
          clear hW hr gW key
          go_simp
          rw [unhide HWW]
          refine hK.out _ _ ?_ (fun hHeld => ?_)
          · try dsimp only
            first | exact unhide GK | exact ⟨box_cell (unhide KX _ (unhide F)).1 0 _ rfl, box_cell (unhide KX _ (unhide F)).1 1 _ rfl, box_cell (unhide KX _ (unhide F)).1 2 _ rfl, box_cell (unhide KX _ (unhide F)).1 3 _ rfl, box_cell (unhide KX _ (unhide F)).1 4 _ rfl⟩
          clear hK K
          try simp only [Act.put, List.setIfInBounds_toArray, List.set_cons_zero, List.set_cons_succ]
          refine wpAnyH_done (by kernel_rfl) ?_ _
          have y0 := box_cell (unhide HR) 0 _ rfl
          have y1 := box_cell (unhide HR) 1 _ rfl
          have y2 := box_cell (unhide HR) 2 _ rfl
          have y3 := box_cell (unhide HR) 3 _ rfl
          have y4 := box_cell (unhide HR) 4 _ rfl
          have FF := hide (show ∃ h', Ending.returned (.agg #[.int .i64 s.i, .int .i64 s.t, .slice spA vn cA, .slice spB ln cB, .slice spD nD cD]) = .returned (.agg #[.int .i64 s.i, .int .i64 s.t, .slice h'.va vn h'.vc, .slice h'.la ln h'.lc, .slice h'.dp nD h'.dc]) ∧ SnAt W s h' ∧ Below D w W from by
            have hz := unhide SZ
            have oa := (unhide OA).kept (unhide GW) (fun g hg e => by have h1 := ((unhide OA).blk_lt g hg).1; have h2 := Option.some.inj e; have h3 := (unhide F).size; omega)
            have ob := (unhide OB).kept (unhide GW) (fun g hg e => by have h1 := ((unhide OB).blk_lt g hg).1; have h2 := Option.some.inj e; have h3 := (unhide F).size; omega)
            have od := (unhide OD).bytes.far (unhide GW) (fun b off e => by
              have h1 := (unhide OD).adr ⟨b, off, none⟩ e
              have h3 : W1.heap.size ≤ b := h1
              omega)
            refine ⟨⟨spA, cA, spB, cB, spD, cD⟩, rfl, ⟨(unhide HS).bi, (unhide HS).bt, oa.ints, ob.ints, od, Nat.le_trans oa.cap.1 oa.cap.2, Nat.le_trans ob.cap.1 ob.cap.2, (unhide OD).cap.1, (unhide OD).cap.2, (unhide OD).nil0⟩, below_grown ((unhide B2).trans ((unhide F).mono (by omega))) (unhide GW) (by omega) (by have := (unhide F).size; omega)⟩)
          clear KX CC DB
          go_wp2
          refine bodyPost_ret (v := .agg #[.int .i64 s.i, .int .i64 s.t, .slice spA vn cA, .slice spB ln cB, .slice spD nD cD]) (by simp [results, Tryz.results14, go_sem, y0, y1, y2, y3, y4]) rfl ?_
          first | exact unhide FF | (rw [hD]; exact unhide FF)
        exact AllReadyH.nil
      exact AllReadyH.nil
    exact AllReadyH.nil
  refine AllReadyH.cons (o := { dst := some 8, op := Op.buildSlice 27 0 #[], type := 27, pos := "ref.go:231", after := #[], guard := none }) rfl (fun K hK => ?_) ?_
  · refine step_build8 rfl rfl _ (Nat.le_refl _) ?_
    intro sp2 W2 ho2 hb2
    first | (have AA := hide (apart_new ho2 (unhide OA)); have AB := hide (apart_new ho2 (unhide OB)); have OA := hide ((unhide OA).later hb2); have OB := hide ((unhide OB).later hb2)) | skip
    have LB := hide (unhide F).size
    have F := hide ((unhide F).trans (hb2.mono (unhide F).size))
    have O2 := hide (ho2.mono (unhide LB))
    clear ho2 hb2 LB
    refine hK.out _ _ ?_ (fun hHeld => ?_)
    · try dsimp only
      first | exact unhide GK | exact ⟨box_cell (unhide KX _ (unhide F)).1 0 _ rfl, box_cell (unhide KX _ (unhide F)).1 1 _ rfl, box_cell (unhide KX _ (unhide F)).1 2 _ rfl, box_cell (unhide KX _ (unhide F)).1 3 _ rfl, box_cell (unhide KX _ (unhide F)).1 4 _ rfl⟩
    clear hK K
    try simp only [Act.put, List.setIfInBounds_toArray, List.set_cons_zero, List.set_cons_succ]
    refine wpAnyH_ready (rs := [4]) (by kernel_rfl) (by simp) ?_
    refine AllReadyH.cons (o := { dst := some 7, op := Op.call { callee := Callee.value (Operand.func 49), args := #[Operand.tmp 6], argTypes := #[26] }, type := 26, pos := "ref.go:231", after := #[{ on := 3, ground := Ground.data }], guard := none }) rfl (fun K hK => ?_) ?_
    · go_simp
      refine (unhide CC _ (unhide F)).mono ?_
      rintro e W4 ⟨spA, cA, spB, cB, rfl, oA, oB, ap, b4⟩
      have LB := hide (unhide F).size
      have F := hide ((unhide F).trans (b4.mono (unhide F).size))
      first | (have AA := hide (apart_old (unhide O2) oA); have AB := hide (apart_old (unhide O2) oB); have O2 := hide ((unhide O2).later b4)) | skip
      first | (have OD := hide ((unhide OD).later b4)) | skip
      have OA := hide (oA.mono (unhide LB))
      have OB := hide (oB.mono (unhide LB))
      clear oA oB ap b4 LB
      go_wp2_with fail
      refine hK.out _ _ ?_ (fun hHeld => ?_)
      · try dsimp only
        first | exact unhide GK | exact ⟨box_cell (unhide KX _ (unhide F)).1 0 _ rfl, box_cell (unhide KX _ (unhide F)).1 1 _ rfl, box_cell (unhide KX _ (unhide F)).1 2 _ rfl, box_cell (unhide KX _ (unhide F)).1 3 _ rfl, box_cell (unhide KX _ (unhide F)).1 4 _ rfl⟩
      clear hK K
      try simp only [Act.put, List.setIfInBounds_toArray, List.set_cons_zero, List.set_cons_succ]
      refine wpAnyH_ready (rs := [8]) (by kernel_rfl) (by simp) ?_
      refine AllReadyH.cons (o := { dst := some 11, op := Op.call { callee := Callee.builtin Builtin.append, args := #[Operand.tmp 8, Operand.tmp 10], argTypes := #[27, 27] }, type := 27, pos := "ref.go:231", after := #[{ on := 5, ground := Ground.data }, { on := 7, ground := Ground.data }, { on := 4, ground := Ground.chain }], guard := none }) rfl (fun K hK => ?_) ?_
      · refine step_append8L rfl (.tmp 8) (.tmp 10) rfl W1.heap.size sp2 0 0 [] rfl rfl (unhide O2) h.dp dn h.dc rfl s.d (unhide DL) (unhide DB _ (unhide F)) (unhide HS).dz (by simp only [List.length_nil]; omega) (unhide F).size ?_
        intro spD nD cD W8 hnD hoD hgD hlD
        rw [List.nil_append] at hnD hoD
        first | (have OA := hide ((unhide OA).stayB (unhide AA) ⟨hgD, hlD⟩); have OB := hide ((unhide OB).stayB (unhide AB) ⟨hgD, hlD⟩)) | skip
        have F := hide ((unhide F).trans (Grew.below ⟨hgD, hlD⟩ (unhide O2) (unhide F).size))
        have OD := hide hoD
        have ND := hide (show nD = dn from (unhide hnD).symm.trans (unhide DL))
        clear hoD hnD hgD hlD O2
        refine hK.out _ _ ?_ (fun hHeld => ?_)
        · try dsimp only
          first | exact unhide GK | exact ⟨box_cell (unhide KX _ (unhide F)).1 0 _ rfl, box_cell (unhide KX _ (unhide F)).1 1 _ rfl, box_cell (unhide KX _ (unhide F)).1 2 _ rfl, box_cell (unhide KX _ (unhide F)).1 3 _ rfl, box_cell (unhide KX _ (unhide F)).1 4 _ rfl⟩
        clear hK K
        try simp only [Act.put, List.setIfInBounds_toArray, List.set_cons_zero, List.set_cons_succ]
        refine held_take 9 (oi := { dst := some 12, op := Op.build 29 #[(0, Operand.tmp 4), (1, Operand.tmp 7), (2, Operand.tmp 11)], type := 29, pos := "ref.go:231", after := #[{ on := 1, ground := Ground.data }, { on := 4, ground := Ground.data }, { on := 8, ground := Ground.data }], guard := none }) (v := ?_) (by kernel_rfl) rfl (by rfl) (by kernel_rfl) (by kernel_rfl) (fun _ _ _ h => h) ?_ (by assumption) ?_
        rotate_left
        · (intro w hSw; (try dsimp only at hSw); go_simp; try with_reducible rfl)
        try simp only [Act.put, List.setIfInBounds_toArray, List.set_cons_zero, List.set_cons_succ]
        refine wpAnyH_ready (rs := [10]) (by kernel_rfl) (by simp) ?_
        refine AllReadyH.cons (o := { dst := none, op := Op.store 29 (Operand.tmp 2) (Operand.tmp 12), type := 0, pos := "ref.go:231", after := #[{ on := 9, ground := Ground.data }, { on := 8, ground := Ground.chain }, { on := 0, ground := Ground.phase }, { on := 1, ground := Ground.phase }, { on := 2, ground := Ground.phase }, { on := 3, ground := Ground.phase }, { on := 4, ground := Ground.phase }, { on := 5, ground := Ground.phase }, { on := 6, ground := Ground.phase }, { on := 7, ground := Ground.phase }, { on := 8, ground := Ground.phase }, { on := 9, ground := Ground.phase }], guard := none }) rfl (fun K hK => ?_) ?_
        · have ND' := unhide ND
          subst ND'
          obtain ⟨W, hr, gW, hW⟩ := five_sets (unhide KX _ (unhide F)).2 (.int .i64 s.i) (.int .i64 s.t) (.slice spA vn cA) (.slice spB ln cB) (.slice spD nD cD)
          have HWW := hide hW
          have HR := hide hr
          have GW := hide gW
          have key : ∀ k v, _ → W.cell? ⟨D, k, none⟩ = some v := fun k v (hc : _ = some v) => (World.cell?_of_block (a := ⟨D, k, none⟩) (gW.block D (Array.getElem?_eq_some_iff.1 (unhide KX _ (unhide F)).1).1 (fun e => by have h1 := Option.some.inj e; omega))).trans hc
          have GK := hide (show W.cell? ⟨D, 0, none⟩ = some (.int .i64 s.i) ∧ W.cell? ⟨D, 1, none⟩ = some (.int .i64 s.t) ∧ W.cell? ⟨D, 2, none⟩ = some (.slice h.va vn h.vc) ∧ W.cell? ⟨D, 3, none⟩ = some (.slice h.la ln h.lc) ∧ W.cell? ⟨D, 4, none⟩ = some (.slice h.dp nD h.dc) from ⟨key 0 _ (box_cell (unhide KX _ (unhide F)).1 0 _ rfl), key 1 _ (box_cell (unhide KX _ (unhide F)).1 1 _ rfl), key 2 _ (box_cell (unhide KX _ (unhide F)).1 2 _ rfl), key 3 _ (box_cell (unhide KX _ (unhide F)).1 3 _ rfl), key 4 _ (box_cell (unhide KX _ (unhide F)).1 4 _ rfl)⟩)
          have z0 := box_cell (unhide KX _ (unhide F)).2 0 _ rfl
          have z1 := box_cell (unhide KX _ (unhide F)).2 1 _ rfl
          have z2 := box_cell (unhide KX _ (unhide F)).2 2 _ rfl
          have z3 := box_cell (unhide KX _ (unhide F)).2 3 _ rfl
          have z4 := box_cell (unhide KX _ (unhide F)).2 4 _ rfl
          have f0 := mbox_free (unhide KX _ (unhide F)).2 0
          have f1 := mbox_free (unhide KX _ (unhide F)).2 1
          have f2 := mbox_free (unhide KX _ (unhide F)).2 2
          have f3 := mbox_free (unhide KX _ (unhide F)).2 3
          have f4 := mbox_free (unhide KX _ (unhide F)).2 4
          clear hW hr gW key
          go_simp
          rw [unhide HWW]
          refine hK.out _ _ ?_ (fun hHeld => ?_)
          · try dsimp only
            first | exact unhide GK | exact ⟨box_cell (unhide KX _ (unhide F)).1 0 _ rfl, box_cell (unhide KX _ (unhide F)).1 1 _ rfl, box_cell (unhide KX _ (unhide F)).1 2 _ rfl, box_cell (unhide KX _ (unhide F)).1 3 _ rfl, box_cell (unhide KX _ (unhide F)).1 4 _ rfl⟩
          clear hK K
          try simp only [Act.put, List.setIfInBounds_toArray, List.set_cons_zero, List.set_cons_succ]
          refine wpAnyH_done (by kernel_rfl) ?_ _
          have y0 := box_cell (unhide HR) 0 _ rfl
          have y1 := box_cell (unhide HR) 1 _ rfl
          have y2 := box_cell (unhide HR) 2 _ rfl
          have y3 := box_cell (unhide HR) 3 _ rfl
          have y4 := box_cell (unhide HR) 4 _ rfl
          have FF := hide (show ∃ h', Ending.returned (.agg #[.int .i64 s.i, .int .i64 s.t, .slice spA vn cA, .slice spB ln cB, .slice spD nD cD]) = .returned (.agg #[.int .i64 s.i, .int .i64 s.t, .slice h'.va vn h'.vc, .slice h'.la ln h'.lc, .slice h'.dp nD h'.dc]) ∧ SnAt W s h' ∧ Below D w W from by
            have hz := unhide SZ
            have oa := (unhide OA).kept (unhide GW) (fun g hg e => by have h1 := ((unhide OA).blk_lt g hg).1; have h2 := Option.some.inj e; have h3 := (unhide F).size; omega)
            have ob := (unhide OB).kept (unhide GW) (fun g hg e => by have h1 := ((unhide OB).blk_lt g hg).1; have h2 := Option.some.inj e; have h3 := (unhide F).size; omega)
            have od := (unhide OD).bytes.far (unhide GW) (fun b off e => by
              have h1 := (unhide OD).adr ⟨b, off, none⟩ e
              have h3 : W1.heap.size ≤ b := h1
              omega)
            refine ⟨⟨spA, cA, spB, cB, spD, cD⟩, rfl, ⟨(unhide HS).bi, (unhide HS).bt, oa.ints, ob.ints, od, Nat.le_trans oa.cap.1 oa.cap.2, Nat.le_trans ob.cap.1 ob.cap.2, (unhide OD).cap.1, (unhide OD).cap.2, (unhide OD).nil0⟩, below_grown ((unhide B2).trans ((unhide F).mono (by omega))) (unhide GW) (by omega) (by have := (unhide F).size; omega)⟩)
          clear KX CC DB
          go_wp2
          refine bodyPost_ret (v := .agg #[.int .i64 s.i, .int .i64 s.t, .slice spA vn cA, .slice spB ln cB, .slice spD nD cD]) (by simp [results, Tryz.results14, go_sem, y0, y1, y2, y3, y4]) rfl ?_
          first | exact unhide FF | (rw [hD]; exact unhide FF)
        exact AllReadyH.nil
      exact AllReadyH.nil
    exact AllReadyH.nil
  exact AllReadyH.nil
end Go.Proofs.YtagncghpfdjkmaaGreatDoor
