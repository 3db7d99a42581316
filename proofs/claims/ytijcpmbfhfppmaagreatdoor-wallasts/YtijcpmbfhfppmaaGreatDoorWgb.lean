/- Logs: load. -/
import Derived.Test.YtijcpmbfhfppmaaGreatDoorWga
namespace Go.Proofs.YtijcpmbfhfppmaaGreatDoor
open Go.ChangeShapes Go.WideShapes Go.ChangeAt Go.RowKit
set_option linter.unusedVariables false

theorem set5L {w : World} {g : Nat} {o a b c d e f x y z u v : Value} {T : TypeId} (h : w.heap[g]? = some (.cells #[o, a, b, c, d, e, f] T (0, 0))) : (((((w.setCell ⟨g, 1, none⟩ x).setCell ⟨g, 2, none⟩ y).setCell ⟨g, 3, none⟩ z).setCell ⟨g, 4, none⟩ u).setCell ⟨g, 5, none⟩ v).heap[g]? = some (.cells #[o, x, y, z, u, v, f] T (0, 0)) ∧ w.grownBy (((((w.setCell ⟨g, 1, none⟩ x).setCell ⟨g, 2, none⟩ y).setCell ⟨g, 3, none⟩ z).setCell ⟨g, 4, none⟩ u).setCell ⟨g, 5, none⟩ v) (some g) := by
  have h1 := heap_setCell_same w g 1 #[o, a, b, c, d, e, f] T x h
  have h2 := heap_setCell_same _ g 2 _ T y h1
  have h3 := heap_setCell_same _ g 3 _ T z h2
  have h4 := heap_setCell_same _ g 4 _ T u h3
  have h5 := heap_setCell_same _ g 5 _ T v h4
  exact ⟨h5, ((((grown_set w g 1 x).trans (grown_set _ g 2 y)).trans (grown_set _ g 3 z)).trans (grown_set _ g 4 u)).trans (grown_set _ g 5 v)⟩
section
variable {Av : Nat → Prop} {base : Nat} {w w' : World} {L d M room N N' : Nat} {ss ss' : Ds} {c : Wc} {n : Nat} {ep : Option Addr} {ec : Nat} {hs : List (Option Addr × Nat)}
set_option maxRecDepth 20000 in
set_option maxHeartbeats 16000000 in
theorem load_calls (z : WAt Av base w L d M room N ss c n ep ec hs) (hN : N + 1 ≤ 1000000) :
    Calls Tryz.prog 64 #[.pointer (some ⟨L, 0, none⟩)] w (LgEnd Av base L d M room (N + 1) w (wLoad n c ss)) := by
  have WL := hide (show wLoad n c ss = (if readE (walNm n) ss ≠ 0 then (8, ss, c, n)
    else match contR (recsA (nowL (walNm n) ss)).1 with
    | none => (4, ss, c, n)
    | some c2 =>
      if (dCut (walNm n) ((recsA (nowL (walNm n) ss)).2 : Int) ss).1 ≠ 0 then ((dCut (walNm n) ((recsA (nowL (walNm n) ss)).2 : Int) ss).1, (dCut (walNm n) ((recsA (nowL (walNm n) ss)).2 : Int) ss).2, c, n)
      else ((dSync (walNm n) (dCut (walNm n) ((recsA (nowL (walNm n) ss)).2 : Int) ss).2).1, (dSync (walNm n) (dCut (walNm n) ((recsA (nowL (walNm n) ss)).2 : Int) ss).2).2, c2, n)) from rfl)
  generalize wLoad n c ss = wl at *
  have hnn := z.nn
  have Z := hide z
  have FS := hide (show ∀ (r : Nat) W, Below w.heap.size w W → LgEnd Av base L d M room (N + 1) w (r, ss, c, n) (.returned (.int .i64 (r : Int))) W from fun r W u => ⟨rfl, ⟨ep, ec, hs, (z.later u).monoN (by omega) hN⟩, (z.asdB u).sub (fun g hg => .inl hg)⟩)
  obtain ⟨c0, _, _⟩ := z.ptr
  have d0 : w.drew.cell? ⟨L, 0, none⟩ = some (.pointer (some ⟨d, 0, none⟩)) := c0
  have FC := hide (file_calls (z.later ((Below.refl _ _).drew)))
  have DC := hide (fun (W : World) (u : Below w.heap.size w W) => aread_calls (z.dk.later u) (str (walNm n)) (nm_size n z.nn))
  rw [str_list] at DC
  have RO := readE_or (walNm n) ss
  have ND := hide (show ∀ W : World, W.heap.size = W.heap.size from fun _ => rfl)
  generalize hNW : str (walNm n) = nm at *
  generalize hR : readE (walNm n) ss = e1 at *
  generalize nowL (walNm n) ss = lb at *
  clear z
  go_enter Tryz.func64, Tryz.ntmps64
  go_wp2_with fail
  refine wp_region_held_drew (S := fun w' => w'.cell? ⟨L, 0, none⟩ = some (.pointer (some ⟨d, 0, none⟩))) (by kernel_rfl) ?_ (fun hHeld => ?_)
  · try dsimp only
    first | exact d0 | exact d1 | exact d2
  refine held_take 0 (oi := { dst := some 11, op := Op.move (Operand.tmp 0), type := 39, pos := "file.go:50", after := #[], guard := none }) (v := ?_) (by kernel_rfl) rfl (by rfl) (by kernel_rfl) (by kernel_rfl) (fun _ _ _ h => h) ?_ (by assumption) ?_
  rotate_left
  · (intro w hSw; (try dsimp only at hSw); go_simp; try with_reducible rfl)
  try simp only [Act.put, List.setIfInBounds_toArray, List.set_cons_zero, List.set_cons_succ]
  refine held_take 1 (oi := { dst := some 12, op := Op.nilCheck (Operand.tmp 11), type := 0, pos := "file.go:50", after := #[{ on := 0, ground := Ground.data }], guard := none }) (v := ?_) (by kernel_rfl) rfl (by rfl) (by kernel_rfl) (by kernel_rfl) (fun _ _ _ h => h) ?_ (by assumption) ?_
  rotate_left
  · (intro w hSw; (try dsimp only at hSw); go_simp; try with_reducible rfl)
  try simp only [Act.put, List.setIfInBounds_toArray, List.set_cons_zero, List.set_cons_succ]
  refine held_take 2 (oi := { dst := some 13, op := Op.fieldAddr 96 (Operand.tmp 12) 0, type := 0, pos := "file.go:50", after := #[{ on := 1, ground := Ground.data }], guard := none }) (v := ?_) (by kernel_rfl) rfl (by rfl) (by kernel_rfl) (by kernel_rfl) (fun _ _ _ h => h) ?_ (by assumption) ?_
  rotate_left
  · (intro w hSw; (try dsimp only at hSw); go_simp; try with_reducible rfl)
  try simp only [Act.put, List.setIfInBounds_toArray, List.set_cons_zero, List.set_cons_succ]
  refine held_take 3 (oi := { dst := some 14, op := Op.load 38 (Operand.tmp 13), type := 38, pos := "file.go:50", after := #[{ on := 2, ground := Ground.data }], guard := none }) (v := ?_) (by kernel_rfl) rfl (by rfl) (by kernel_rfl) (by kernel_rfl) (fun _ _ _ h => h) ?_ (by assumption) ?_
  rotate_left
  · (intro w hSw; (try dsimp only at hSw); go_simp; try with_reducible rfl)
  try simp only [Act.put, List.setIfInBounds_toArray, List.set_cons_zero, List.set_cons_succ]
  refine held_take 4 (oi := { dst := some 15, op := Op.move (Operand.tmp 0), type := 39, pos := "file.go:50", after := #[], guard := none }) (v := ?_) (by kernel_rfl) rfl (by rfl) (by kernel_rfl) (by kernel_rfl) (fun _ _ _ h => h) ?_ (by assumption) ?_
  rotate_left
  · (intro w hSw; (try dsimp only at hSw); go_simp; try with_reducible rfl)
  try simp only [Act.put, List.setIfInBounds_toArray, List.set_cons_zero, List.set_cons_succ]
  refine held_one 5 (oi := { dst := some 16, op := Op.call { callee := Callee.value (Operand.func 34), args := #[Operand.tmp 15], argTypes := #[39] }, type := 9, pos := "file.go:50", after := #[{ on := 4, ground := Ground.data }], guard := none }) (by kernel_rfl) rfl (fun K hK => ?_)
  go_simp
  first
    | (go_at_call 34
       refine (unhide FC).mono ?_
       rintro e V1 ⟨rfl, v1⟩
       have d1 := cell_later v1 d0
       have B1 := hide (show Below w.heap.size w V1 from ⟨v1.os, v1.tape, v1.output, v1.size, v1.block⟩)
       clear v1)
    | (go_at_call 35
       refine (unhide DC _ (unhide B1)).mono ?_
       rintro e V2 ⟨sp, k, rfl, hk, hk2, o2, v2⟩
       have d2 := cell_later v2 d1
       have B2 := hide ((unhide B1).trans (v2.mono (unhide B1).size))
       have HK := hide hk
       have O2 := hide o2
       clear v2 o2 hk)
  go_wp2_with fail
  refine hK.out _ _ ?_ (fun hHeld => ?_)
  · try dsimp only
    first | exact d0 | exact d1 | exact d2
  clear hK K
  try simp only [Act.put, List.setIfInBounds_toArray, List.set_cons_zero, List.set_cons_succ]
  refine held_one 6 (oi := { dst := some 17, op := Op.call { callee := Callee.value (Operand.func 35), args := #[Operand.tmp 14, Operand.tmp 16], argTypes := #[38, 9] }, type := 70, pos := "file.go:50", after := #[{ on := 3, ground := Ground.data }, { on := 5, ground := Ground.data }, { on := 5, ground := Ground.chain }], guard := none }) (by kernel_rfl) rfl (fun K hK => ?_)
  go_simp
  first
    | (go_at_call 34
       refine (unhide FC).mono ?_
       rintro e V1 ⟨rfl, v1⟩
       have d1 := cell_later v1 d0
       have B1 := hide (show Below w.heap.size w V1 from ⟨v1.os, v1.tape, v1.output, v1.size, v1.block⟩)
       clear v1)
    | (go_at_call 35
       refine (unhide DC _ (unhide B1)).mono ?_
       rintro e V2 ⟨sp, k, rfl, hk, hk2, o2, v2⟩
       have d2 := cell_later v2 d1
       have B2 := hide ((unhide B1).trans (v2.mono (unhide B1).size))
       have HK := hide hk
       have O2 := hide o2
       clear v2 o2 hk)
  go_wp2_with fail
  refine hK.out _ _ ?_ (fun hHeld => ?_)
  · try dsimp only
    first | exact d0 | exact d1 | exact d2
  clear hK K
  try simp only [Act.put, List.setIfInBounds_toArray, List.set_cons_zero, List.set_cons_succ]
  refine held_take 7 (oi := { dst := some 10, op := Op.move (Operand.tmp 17), type := 70, pos := "file.go:50", after := #[{ on := 6, ground := Ground.data }], guard := none }) (v := ?_) (by kernel_rfl) rfl (by rfl) (by kernel_rfl) (by kernel_rfl) (fun _ _ _ h => h) ?_ (by assumption) ?_
  rotate_left
  · (intro w hSw; (try dsimp only at hSw); go_simp; try with_reducible rfl)
  try simp only [Act.put, List.setIfInBounds_toArray, List.set_cons_zero, List.set_cons_succ]
  refine held_take 8 (oi := { dst := some 18, op := Op.extract (Operand.tmp 10) 0, type := 58, pos := "file.go:50", after := #[{ on := 7, ground := Ground.data }], guard := none }) (v := ?_) (by kernel_rfl) rfl (by rfl) (by kernel_rfl) (by kernel_rfl) (fun _ _ _ h => h) ?_ (by assumption) ?_
  rotate_left
  · (intro w hSw; (try dsimp only at hSw); go_simp; try with_reducible rfl)
  try simp only [Act.put, List.setIfInBounds_toArray, List.set_cons_zero, List.set_cons_succ]
  refine held_take 9 (oi := { dst := some 19, op := Op.extract (Operand.tmp 10) 1, type := 49, pos := "file.go:50", after := #[{ on := 7, ground := Ground.data }, { on := 10, ground := Ground.gcOnly Departure.lateStores }], guard := none }) (v := ?_) (by kernel_rfl) rfl (by rfl) (by kernel_rfl) (by kernel_rfl) (fun _ _ _ h => h) ?_ (by assumption) ?_
  rotate_left
  · (intro w hSw; (try dsimp only at hSw); go_simp; try with_reducible rfl)
  try simp only [Act.put, List.setIfInBounds_toArray, List.set_cons_zero, List.set_cons_succ]
  refine held_take 10 (oi := { dst := some 3, op := Op.assign (Operand.tmp 18), type := 58, pos := "file.go:50", after := #[{ on := 8, ground := Ground.data }, { on := 6, ground := Ground.chain }, { on := 0, ground := Ground.phase }, { on := 1, ground := Ground.phase }, { on := 2, ground := Ground.phase }, { on := 3, ground := Ground.phase }, { on := 4, ground := Ground.phase }, { on := 5, ground := Ground.phase }, { on := 6, ground := Ground.phase }, { on := 7, ground := Ground.phase }, { on := 8, ground := Ground.phase }, { on := 9, ground := Ground.textOnly Departure.lateStores }], guard := none }) (v := ?_) (by kernel_rfl) rfl (by rfl) (by kernel_rfl) (by kernel_rfl) (fun _ _ _ h => h) ?_ (by assumption) ?_
  rotate_left
  · (intro w hSw; (try dsimp only at hSw); go_simp; try with_reducible rfl)
  try simp only [Act.put, List.setIfInBounds_toArray, List.set_cons_zero, List.set_cons_succ]
  refine held_take 11 (oi := { dst := some 4, op := Op.assign (Operand.tmp 19), type := 49, pos := "file.go:50", after := #[{ on := 9, ground := Ground.data }, { on := 10, ground := Ground.chain }, { on := 0, ground := Ground.phase }, { on := 1, ground := Ground.phase }, { on := 2, ground := Ground.phase }, { on := 3, ground := Ground.phase }, { on := 4, ground := Ground.phase }, { on := 5, ground := Ground.phase }, { on := 6, ground := Ground.phase }, { on := 7, ground := Ground.phase }, { on := 8, ground := Ground.phase }, { on := 9, ground := Ground.phase }, { on := 10, ground := Ground.phase }], guard := none }) (v := ?_) (by kernel_rfl) rfl (by rfl) (by kernel_rfl) (by kernel_rfl) (fun _ _ _ h => h) ?_ (by assumption) ?_
  rotate_left
  · (intro w hSw; (try dsimp only at hSw); go_simp; try with_reducible rfl)
  try simp only [Act.put, List.setIfInBounds_toArray, List.set_cons_zero, List.set_cons_succ]
  refine wpAnyH_done (by kernel_rfl) ?_ _
  clear FC DC d0 c0 d1 d2
  rcases RO with h1 | h1
  · subst h1
    rw [if_neg (by simp)] at WL
    have hk := unhide HK
    subst hk
    have AC := hide (all_calls sp lb.length lb V2 (by omega) (Nat.le_refl _) (unhide O2).bytes)
    go_wp2_with fail
    go_at_call 100
    refine (unhide AC).mono ?_
    rintro e V3 ⟨v3, rs, kk, rfl, b3, o3, st, ne, hkl⟩
    have RA := hide (recsA_is st ne hkl)
    rw [unhide RA] at WL
    dsimp only at WL
    obtain ⟨sp3, c3, rfl⟩ := o3.form
    have SL := st.length_le
    have B3 := hide ((unhide B2).trans (b3.mono (unhide B2).size))
    have CC := hide (contentOf_calls sp3 rs.length c3 rs V3 rfl (by omega) (fun r hr => by have := steps_in st r hr; omega) o3.rows)
    have HC := hide (fun c2 h => contR_ok (rs := rs) (c := c2) h o3.lt)
    have S8 := hide (show rs.length ≤ 1000000 by omega)
    clear st ne b3 o3 AC SL
    go_wp2_with fail
    go_at_call 101
    refine (unhide CC).mono ?_
    cases hcr : contR rs with
    | none =>
      rw [hcr] at WL
      rintro e V4 ⟨b4, rfl⟩
      have B4 := hide ((unhide B3).trans (b4.mono (unhide B3).size))
      have B5 := hide (show Below w.heap.size w (V4.alloc (.cells #[.int .i64 0, .int .i64 0, .int .i64 0, .int .i64 0, .slice none 0 0] 94)) from (unhide B4).alloc (unhide B4).size _)
      have FE := hide (unhide FS 4 _ (unhide B5))
      clear b4 hcr
      go_wp2
      go_ret
      rw [unhide WL]
      exact unhide FE
    | some c2 =>
      rw [hcr] at WL
      have OK2 := hide (unhide HC c2 hcr)
      try dsimp only at WL
      rintro e V4 ⟨b4, ep2, ec2, hs2, rfl, o4, hbi, hln⟩
      have B4 := hide ((unhide B3).trans (b4.mono (unhide B3).size))
      have U5 := hide (show Below V4.heap.size V4 (V4.alloc (.cells #[.int .i64 (c2.bi : Int), .int .i64 (c2.bt : Int), .int .i64 (c2.ht : Int), .int .i64 (c2.hv : Int), .slice ep2 c2.es.length ec2] 94)) from (Below.refl _ _).alloc (Nat.le_refl _) _)
      have X5 := hide (heap_new V4 (.cells #[.int .i64 (c2.bi : Int), .int .i64 (c2.bt : Int), .int .i64 (c2.ht : Int), .int .i64 (c2.hv : Int), .slice ep2 c2.es.length ec2] 94))
      have O4 := hide o4
      have S3 := hide (show w.heap.size ≤ V3.heap.size from (unhide B3).size)
      have S4 := hide (show w.heap.size ≤ V4.heap.size from (unhide B4).size)
      have LE2 := hide (show c2.es.length ≤ 1000000 by have := unhide S8; omega)
      clear b4 o4 hcr hbi hln CC HC
      go_wp2_with fail
      generalize V4.alloc _ = V5 at *
      have B5 := hide ((unhide B4).trans ((unhide U5).mono (unhide B4).size))
      have O5 := hide (((unhide O4).later (unhide U5)).mono (base' := base) (Nat.le_trans (unhide Z).dk.le (unhide S3)))
      have FT := hide (show ∀ g, LFoot ep2 hs2 g → w.heap.size ≤ g ∧ g < V5.heap.size from fun g hg => by
        obtain ⟨h1, h2, _⟩ := ((unhide O4).later (unhide U5)).foot g hg
        exact ⟨Nat.le_trans (unhide S3) h1, h2⟩)
      have Z5 := hide ((unhide Z).more (unhide B5))
      have A5 := hide (((unhide Z).asdB (unhide B5)).sub (Bv := Av) (fun g hg => .inl hg))
      have VL := hide (show V4.heap.size < V5.heap.size from (Array.getElem?_eq_some_iff.1 (unhide X5)).1)
      have c0 := (unhide Z5).ptr.1
      have d0 : V5.drew.cell? ⟨L, 0, none⟩ = some (.pointer (some ⟨d, 0, none⟩)) := c0
      have FC := hide (file_calls ((unhide Z5).later ((Below.refl _ _).drew)))
      have DC := hide (fun (W : World) (u : Below V5.heap.size V5 W) => acut_calls ((unhide Z5).dk.later u) hN (str (walNm n)) (nm_size n hnn) (kk : Int))
      rw [str_list] at DC
      rw [hNW] at FC DC
      generalize dCut (walNm n) (kk : Int) ss = r6 at *
      obtain ⟨e6, s6⟩ := r6
      try dsimp only at WL
      refine wp_region_held_drew (S := fun w' => w'.cell? ⟨L, 0, none⟩ = some (.pointer (some ⟨d, 0, none⟩))) (by kernel_rfl) ?_ (fun hHeld => ?_)
      · try dsimp only
        first | exact d0 | exact d1 | exact d2
      refine held_take 0 (oi := { dst := some 35, op := Op.move (Operand.tmp 0), type := 39, pos := "file.go:59", after := #[], guard := none }) (v := ?_) (by kernel_rfl) rfl (by rfl) (by kernel_rfl) (by kernel_rfl) (fun _ _ _ h => h) ?_ (by assumption) ?_
      rotate_left
      · (intro w hSw; (try dsimp only at hSw); go_simp; try with_reducible rfl)
      try simp only [Act.put, List.setIfInBounds_toArray, List.set_cons_zero, List.set_cons_succ]
      refine held_take 1 (oi := { dst := some 36, op := Op.nilCheck (Operand.tmp 35), type := 0, pos := "file.go:59", after := #[{ on := 0, ground := Ground.data }], guard := none }) (v := ?_) (by kernel_rfl) rfl (by rfl) (by kernel_rfl) (by kernel_rfl) (fun _ _ _ h => h) ?_ (by assumption) ?_
      rotate_left
      · (intro w hSw; (try dsimp only at hSw); go_simp; try with_reducible rfl)
      try simp only [Act.put, List.setIfInBounds_toArray, List.set_cons_zero, List.set_cons_succ]
      refine held_take 2 (oi := { dst := some 37, op := Op.fieldAddr 96 (Operand.tmp 36) 0, type := 0, pos := "file.go:59", after := #[{ on := 1, ground := Ground.data }], guard := none }) (v := ?_) (by kernel_rfl) rfl (by rfl) (by kernel_rfl) (by kernel_rfl) (fun _ _ _ h => h) ?_ (by assumption) ?_
      rotate_left
      · (intro w hSw; (try dsimp only at hSw); go_simp; try with_reducible rfl)
      try simp only [Act.put, List.setIfInBounds_toArray, List.set_cons_zero, List.set_cons_succ]
      refine held_take 3 (oi := { dst := some 38, op := Op.load 38 (Operand.tmp 37), type := 38, pos := "file.go:59", after := #[{ on := 2, ground := Ground.data }], guard := none }) (v := ?_) (by kernel_rfl) rfl (by rfl) (by kernel_rfl) (by kernel_rfl) (fun _ _ _ h => h) ?_ (by assumption) ?_
      rotate_left
      · (intro w hSw; (try dsimp only at hSw); go_simp; try with_reducible rfl)
      try simp only [Act.put, List.setIfInBounds_toArray, List.set_cons_zero, List.set_cons_succ]
      refine held_take 4 (oi := { dst := some 39, op := Op.move (Operand.tmp 0), type := 39, pos := "file.go:59", after := #[], guard := none }) (v := ?_) (by kernel_rfl) rfl (by rfl) (by kernel_rfl) (by kernel_rfl) (fun _ _ _ h => h) ?_ (by assumption) ?_
      rotate_left
      · (intro w hSw; (try dsimp only at hSw); go_simp; try with_reducible rfl)
      try simp only [Act.put, List.setIfInBounds_toArray, List.set_cons_zero, List.set_cons_succ]
      refine held_take 6 (oi := { dst := some 41, op := Op.move (Operand.tmp 6), type := 3, pos := "file.go:59", after := #[], guard := none }) (v := ?_) (by kernel_rfl) rfl (by rfl) (by kernel_rfl) (by kernel_rfl) (fun _ _ _ h => h) ?_ (by assumption) ?_
      rotate_left
      · (intro w hSw; (try dsimp only at hSw); go_simp; try with_reducible rfl)
      try simp only [Act.put, List.setIfInBounds_toArray, List.set_cons_zero, List.set_cons_succ]
      refine held_one 5 (oi := { dst := some 40, op := Op.call { callee := Callee.value (Operand.func 34), args := #[Operand.tmp 39], argTypes := #[39] }, type := 9, pos := "file.go:59", after := #[{ on := 4, ground := Ground.data }], guard := none }) (by kernel_rfl) rfl (fun K hK => ?_)
      go_simp
      first
        | (go_at_call 34
           refine (unhide FC).mono ?_
           rintro e V6 ⟨rfl, v6⟩
           have d1 := cell_later v6 d0
           have B6 := hide (show Below V5.heap.size V5 V6 from ⟨v6.os, v6.tape, v6.output, v6.size, v6.block⟩)
           clear v6)
        | (go_at_call 102
           refine (unhide DC _ (unhide B6)).mono ?_
           rintro e V7 ⟨rfl, dk7, as7⟩
           have Z7 := hide (((unhide Z5).later (unhide B6)).disk dk7 as7)
           have A7 := hide (((unhide Z5).asdB (unhide B6)).trans (((unhide Z5).later (unhide B6)).asd as7))
           have d2 := (unhide Z7).ptr.1
           clear dk7 as7)
      go_wp2_with fail
      refine hK.out _ _ ?_ (fun hHeld => ?_)
      · try dsimp only
        first | exact d0 | exact d1 | exact d2
      clear hK K
      try simp only [Act.put, List.setIfInBounds_toArray, List.set_cons_zero, List.set_cons_succ]
      refine held_one 7 (oi := { dst := some 42, op := Op.call { callee := Callee.value (Operand.func 102), args := #[Operand.tmp 38, Operand.tmp 40, Operand.tmp 41], argTypes := #[38, 9, 3] }, type := 49, pos := "file.go:59", after := #[{ on := 3, ground := Ground.data }, { on := 5, ground := Ground.data }, { on := 6, ground := Ground.data }, { on := 5, ground := Ground.chain }], guard := none }) (by kernel_rfl) rfl (fun K hK => ?_)
      go_simp
      first
        | (go_at_call 34
           refine (unhide FC).mono ?_
           rintro e V6 ⟨rfl, v6⟩
           have d1 := cell_later v6 d0
           have B6 := hide (show Below V5.heap.size V5 V6 from ⟨v6.os, v6.tape, v6.output, v6.size, v6.block⟩)
           clear v6)
        | (go_at_call 102
           refine (unhide DC _ (unhide B6)).mono ?_
           rintro e V7 ⟨rfl, dk7, as7⟩
           have Z7 := hide (((unhide Z5).later (unhide B6)).disk dk7 as7)
           have A7 := hide (((unhide Z5).asdB (unhide B6)).trans (((unhide Z5).later (unhide B6)).asd as7))
           have d2 := (unhide Z7).ptr.1
           clear dk7 as7)
      go_wp2_with fail
      refine hK.out _ _ ?_ (fun hHeld => ?_)
      · try dsimp only
        first | exact d0 | exact d1 | exact d2
      clear hK K
      try simp only [Act.put, List.setIfInBounds_toArray, List.set_cons_zero, List.set_cons_succ]
      refine held_take 8 (oi := { dst := some 9, op := Op.assign (Operand.tmp 42), type := 49, pos := "file.go:59", after := #[{ on := 7, ground := Ground.data }, { on := 7, ground := Ground.chain }, { on := 0, ground := Ground.phase }, { on := 1, ground := Ground.phase }, { on := 2, ground := Ground.phase }, { on := 3, ground := Ground.phase }, { on := 4, ground := Ground.phase }, { on := 5, ground := Ground.phase }, { on := 6, ground := Ground.phase }, { on := 7, ground := Ground.phase }], guard := none }) (v := ?_) (by kernel_rfl) rfl (by rfl) (by kernel_rfl) (by kernel_rfl) (fun _ _ _ h => h) ?_ (by assumption) ?_
      rotate_left
      · (intro w hSw; (try dsimp only at hSw); go_simp; try with_reducible rfl)
      try simp only [Act.put, List.setIfInBounds_toArray, List.set_cons_zero, List.set_cons_succ]
      refine wpAnyH_done (by kernel_rfl) ?_ _
      clear FC DC d0 c0 d1 d2
      have A8 := hide ((unhide A5).trans ((unhide A7).sub (Bv := Av) (fun g hg => .inl (.inl hg))))
      have X7 := hide (((unhide A7).av V4.heap.size (.inl (.inr ⟨unhide S4, unhide VL⟩))).trans (unhide X5))
      have O7 := hide ((unhide O5).same (w' := V7) (fun g hg => (unhide A7).av g (.inl (.inr (unhide FT g hg)))))
      try dsimp only at WL
      by_cases h6 : e6 = 0
      · subst h6
        rw [if_neg (by simp)] at WL
        rw [show ((0 : Nat) : Int) = 0 from rfl]
        have R7 := hide (unhide Z7).lg.row
        obtain ⟨l1, l2⟩ := set5L (x := .int .i64 (c2.bi : Int)) (y := .int .i64 (c2.bt : Int)) (z := .int .i64 (c2.ht : Int)) (u := .int .i64 (c2.hv : Int)) (v := .slice ep2 c2.es.length ec2) (unhide R7)
        obtain ⟨p1, p2⟩ := (unhide Z7).put (c2 := c2) (n' := n) (hs2 := hs2) ⟨l1⟩ l2 (unhide O7) (fun g hg => .inl (.inr (unhide FT g hg))) (unhide OK2) hnn (unhide LE2)
        have Z8 := hide (p1.sub (Bv := Av) (fun g hg => ⟨.inl hg, fun hf => by have h1 := (unhide FT g hf).1; have h2 := (unhide Z).dk.lt (.inl hg); omega⟩))
        have A9 := hide ((unhide A8).trans (p2.sub (Bv := Av) (fun g hg => .inl hg)))
        have SC := hide (wsync_calls (unhide Z8))
        generalize dSync (walNm n) s6 = r9 at *
        obtain ⟨e9, s9⟩ := r9
        try dsimp only at WL
        have x0 : V7.cell? ⟨V4.heap.size, 0, none⟩ = some (.int .i64 (c2.bi : Int)) := box_cell (unhide X7) 0 _ rfl
        have x1 : V7.cell? ⟨V4.heap.size, 1, none⟩ = some (.int .i64 (c2.bt : Int)) := box_cell (unhide X7) 1 _ rfl
        have x2 : V7.cell? ⟨V4.heap.size, 2, none⟩ = some (.int .i64 (c2.ht : Int)) := box_cell (unhide X7) 2 _ rfl
        have x3 : V7.cell? ⟨V4.heap.size, 3, none⟩ = some (.int .i64 (c2.hv : Int)) := box_cell (unhide X7) 3 _ rfl
        have x4 : V7.cell? ⟨V4.heap.size, 4, none⟩ = some (.slice ep2 c2.es.length ec2) := box_cell (unhide X7) 4 _ rfl
        have m1 : V7.cell? ⟨L, 1, none⟩ = some (.int .i64 (c.bi : Int)) := box_cell (unhide R7) 1 _ rfl
        have m2 : V7.cell? ⟨L, 2, none⟩ = some (.int .i64 (c.bt : Int)) := box_cell (unhide R7) 2 _ rfl
        have m3 : V7.cell? ⟨L, 3, none⟩ = some (.int .i64 (c.ht : Int)) := box_cell (unhide R7) 3 _ rfl
        have m4 : V7.cell? ⟨L, 4, none⟩ = some (.int .i64 (c.hv : Int)) := box_cell (unhide R7) 4 _ rfl
        have m5 : V7.cell? ⟨L, 5, none⟩ = some (.slice ep c.es.length ec) := box_cell (unhide R7) 5 _ rfl
        have f1 := froz_of (unhide R7) 1
        have f2 := froz_of (unhide R7) 2
        have f3 := froz_of (unhide R7) 3
        have f4 := froz_of (unhide R7) 4
        have f5 := froz_of (unhide R7) 5
        clear p1 p2 l1 l2
        go_wp2_with fail
        clear x0 x1 x2 x3 x4 m1 m2 m3 m4 m5 f1 f2 f3 f4 f5
        generalize ((((V7.setCell _ _).setCell _ _).setCell _ _).setCell _ _).setCell _ _ = V8 at *
        go_at_call 29
        refine (unhide SC).mono ?_
        rintro e V9 ⟨rfl, z9, a9⟩
        have FE := hide (show LgEnd Av base L d M room (N + 1) w wl (.returned (.int .i64 (e9 : Int))) V9 by
          rw [unhide WL]
          exact ⟨rfl, ⟨ep2, ec2, hs2, z9⟩, (unhide A9).trans (a9.sub (fun g hg => .inl hg))⟩)
        clear z9 a9
        go_wp2
        go_ret
        exact unhide FE
      · rw [if_pos h6] at WL
        have h6' : ((e6 : Int) == 0) = false := by simp; omega
        have h6'' : ¬ (e6 : Int) = 0 := by omega
        have FE := hide (show LgEnd Av base L d M room (N + 1) w wl (.returned (.int .i64 (e6 : Int))) V7 by
          rw [unhide WL]
          exact ⟨rfl, ⟨ep, ec, hs, (unhide Z7).sub (fun g hg => .inl hg)⟩, unhide A8⟩)
        go_wp2
        go_ret
        exact unhide FE
  · subst h1
    rw [if_pos (by simp)] at WL
    have FE := hide (unhide FS 8 V2 (unhide B2))
    go_wp2
    go_ret
    rw [unhide WL]
    exact unhide FE
end
end Go.Proofs.YtijcpmbfhfppmaaGreatDoor
