/- Changes' bytes: PutChange, the program's and the document's. -/
import Derived.Test.YtnclkkoefejjiaaMp1
namespace Go.Proofs.Ytnclkkoefejjiaa
open Go.ChangeShapes Go.WideShapes Go.ChangeAt Go.RowKit

theorem step_build8 {w : World} {ops : Array Oper} {o : Oper} {a : Act} {K : Act → World → Prop} {Q : Exit → Act → World → Prop} {E : Prop} (hgd : o.guard = none)
    (ho : o.op = .buildSlice 52 0 #[]) (base : Nat) (hbase : base ≤ w.heap.size)
    (h : ∀ sp w', OwnB base w' sp 0 [] → Below w.heap.size w w' → K (a.put o.dst (.slice sp 0 0)) w') :
    if Region.wanted o (yielded ops a.tmps) = true then Oper.wp Try.prog o a w K Q else E := by
  have hw : Region.wanted o (yielded ops a.tmps) = true := by simp [Region.wanted, hgd]
  rw [if_pos hw]
  have h1 := h (some ⟨w.heap.size, 0, none⟩) (w.alloc (.cells #[] 5)) (OwnB.empty w base hbase) ((Below.refl _ _).alloc (Nat.le_refl _) _)
  unfold Oper.wp
  simp [execOp, ho, go_sem]
  exact h1
section
variable {w : World} {d n : Int}
set_option maxHeartbeats 4000000 in
theorem mputC_no (h : mayM d n = false) : Calls Try.prog 35 #[cV d n] w fun e w' => e = .returned (.tuple #[.slice none 0 0, .int .i64 2]) ∧ Below w.heap.size w w' := by
  have X1 := hide (heap_new w (cB d n))
  have b1 := hide (show Below w.heap.size w (w.alloc (cB d n)) from (Below.refl _ _).alloc (Nat.le_refl _) _)
  have c0 := box_cell (unhide X1) 0 _ rfl
  have c1 := box_cell (unhide X1) 1 _ rfl
  go_enter Try.func35, Try.ntmps35
  go_wp2_with fail
  generalize hD : w.heap.size = D at *
  generalize w.alloc (cB d n) = w1 at *
  refine (changeMayBe_calls d n _).mono ?_
  rintro e w2 ⟨rfl, b2⟩
  have B2 := hide ((unhide b1).trans (b2.mono (by have := (unhide b1).size; omega)))
  rw [h]
  clear b2 c0 c1
  go_wp2
  go_ret2
  exact ⟨rfl, by first | exact unhide B2 | (rw [hD]; exact unhide B2)⟩
set_option maxHeartbeats 4000000 in
theorem rputC_no (h : mayM d n = false) : Calls Try.prog 36 #[cV d n] w fun e w' => e = .returned (.tuple #[.slice none 0 0, .int .i64 2]) ∧ Below w.heap.size w w' := by
  have X1 := hide (heap_new w (cB d n))
  have b1 := hide (show Below w.heap.size w (w.alloc (cB d n)) from (Below.refl _ _).alloc (Nat.le_refl _) _)
  have c0 := box_cell (unhide X1) 0 _ rfl
  have c1 := box_cell (unhide X1) 1 _ rfl
  go_enter Try.func36, Try.ntmps36
  go_wp2_with fail
  generalize hD : w.heap.size = D at *
  generalize w.alloc (cB d n) = w1 at *
  refine (rightChange_calls d n _).mono ?_
  rintro e w2 ⟨rfl, b2⟩
  have B2 := hide ((unhide b1).trans (b2.mono (by have := (unhide b1).size; omega)))
  rw [h]
  clear b2 c0 c1
  go_wp2
  go_ret2
  exact ⟨rfl, by first | exact unhide B2 | (rw [hD]; exact unhide B2)⟩
set_option maxRecDepth 20000 in
set_option maxHeartbeats 4000000 in
theorem mputC_yes (h : mayM d n = true) : Calls Try.prog 35 #[cV d n] w fun e w' => ∃ sp m c, e = .returned (.tuple #[.slice sp m c, .int .i64 0]) ∧ Hid ([d.toNat, n.toNat].length = m) ∧ OwnB w.heap.size w' sp c [d.toNat, n.toNat] ∧ Below w.heap.size w w' := by
  obtain ⟨hd14, hn1, hn9⟩ := may_parts h
  have X1 := hide (heap_new w (cB d n))
  have b1 := hide (show Below w.heap.size w (w.alloc (cB d n)) from (Below.refl _ _).alloc (Nat.le_refl _) _)
  have c0 := box_cell (unhide X1) 0 _ rfl
  have c1 := box_cell (unhide X1) 1 _ rfl
  go_enter Try.func35, Try.ntmps35
  go_wp2_with fail
  generalize hD : w.heap.size = D at *
  generalize w.alloc (cB d n) = w1 at *
  refine (changeMayBe_calls d n _).mono ?_
  rintro e w2 ⟨rfl, b2⟩
  have B2 := hide ((unhide b1).trans (b2.mono (by have := (unhide b1).size; omega)))
  have X2 := hide (later_block b2 (unhide X1))
  rw [h]
  clear b2 c0 c1
  have c0 := box_cell (unhide X2) 0 _ rfl
  have c1 := box_cell (unhide X2) 1 _ rfl
  have F := hide (show Below w2.heap.size w2 w2.drew from (Below.refl _ _).drew)
  go_wp2_with fail
  refine wp_region_held_drew (S := fun w' => w'.cell? ⟨D, 0, none⟩ = some (.int .i64 d) ∧ w'.cell? ⟨D, 1, none⟩ = some (.int .i64 n)) (by kernel_rfl) ?_ (fun hHeld => ?_)
  · try dsimp only
    exact ⟨cell_later (unhide F) c0, cell_later (unhide F) c1⟩
  refine held_take 0 (oi := { dst := some 7, op := Op.fieldAddr 40 (Operand.tmp 1) 0, type := 0, pos := "bytes.go:77", after := #[], guard := none }) (v := ?_) (by kernel_rfl) rfl (by rfl) (by kernel_rfl) (by kernel_rfl) (fun _ _ _ h => h) ?_ (by assumption) ?_
  rotate_left
  · (intro w hSw; (try dsimp only at hSw); go_simp; try with_reducible rfl)
  try simp only [Act.put, List.setIfInBounds_toArray, List.set_cons_zero, List.set_cons_succ]
  refine held_take 1 (oi := { dst := some 8, op := Op.load 38 (Operand.tmp 7), type := 38, pos := "bytes.go:77", after := #[{ on := 0, ground := Ground.data }], guard := none }) (v := ?_) (by kernel_rfl) rfl (by rfl) (by kernel_rfl) (by kernel_rfl) (fun _ _ _ h => h) ?_ (by assumption) ?_
  rotate_left
  · (intro w hSw; (try dsimp only at hSw); go_simp; try with_reducible rfl)
  try simp only [Act.put, List.setIfInBounds_toArray, List.set_cons_zero, List.set_cons_succ]
  refine held_take 3 (oi := { dst := some 10, op := Op.fieldAddr 40 (Operand.tmp 1) 1, type := 0, pos := "bytes.go:77", after := #[], guard := none }) (v := ?_) (by kernel_rfl) rfl (by rfl) (by kernel_rfl) (by kernel_rfl) (fun _ _ _ h => h) ?_ (by assumption) ?_
  rotate_left
  · (intro w hSw; (try dsimp only at hSw); go_simp; try with_reducible rfl)
  try simp only [Act.put, List.setIfInBounds_toArray, List.set_cons_zero, List.set_cons_succ]
  refine held_take 4 (oi := { dst := some 11, op := Op.load 3 (Operand.tmp 10), type := 3, pos := "bytes.go:77", after := #[{ on := 3, ground := Ground.data }], guard := none }) (v := ?_) (by kernel_rfl) rfl (by rfl) (by kernel_rfl) (by kernel_rfl) (fun _ _ _ h => h) ?_ (by assumption) ?_
  rotate_left
  · (intro w hSw; (try dsimp only at hSw); go_simp; try with_reducible rfl)
  try simp only [Act.put, List.setIfInBounds_toArray, List.set_cons_zero, List.set_cons_succ]
  refine wpAnyH_ready (rs := [2]) (by kernel_rfl) (by simp) ?_
  refine AllReadyH.cons (o := { dst := some 9, op := Op.call { callee := Callee.value (Operand.func 61), args := #[Operand.const (Value.slice none 0 0), Operand.tmp 8], argTypes := #[52, 3] }, type := 52, pos := "bytes.go:77", after := #[{ on := 1, ground := Ground.data }], guard := none }) rfl (fun K hK => ?_) ?_
  · go_simp
    refine (maddNumber_calls (b := []) w2.heap.size 0 d rfl (OwnB.ofNil _ _) (by simp) (by omega) (unhide F).size).mono ?_
    rintro e W3 ⟨sp3, n3, k3, rfl, hn3, ho3, hb3⟩
    have F := hide ((unhide F).trans hb3)
    have O3 := hide ho3
    have N3 := hide (unhide hn3)
    clear ho3 hn3 hb3
    go_wp2_with fail
    refine hK.out _ _ ?_ (fun hHeld => ?_)
    · try dsimp only
      exact ⟨cell_later (unhide F) c0, cell_later (unhide F) c1⟩
    clear hK K
    try simp only [Act.put, List.setIfInBounds_toArray, List.set_cons_zero, List.set_cons_succ]
    refine wpAnyH_ready (rs := [5]) (by kernel_rfl) (by simp) ?_
    refine AllReadyH.cons (o := { dst := some 12, op := Op.call { callee := Callee.value (Operand.func 61), args := #[Operand.tmp 9, Operand.tmp 11], argTypes := #[52, 3] }, type := 52, pos := "bytes.go:77", after := #[{ on := 2, ground := Ground.data }, { on := 4, ground := Ground.data }, { on := 2, ground := Ground.chain }], guard := none }) rfl (fun K hK => ?_) ?_
    · go_simp
      refine (maddNumber_calls w2.heap.size n3 n (unhide N3) (unhide O3) (by simp) (by omega) (unhide F).size).mono ?_
      rintro e W4 ⟨sp4, n4, k4, rfl, hn4, ho4, hb4⟩
      have F := hide ((unhide F).trans hb4)
      have O4 := hide ho4
      have N4 := hide (unhide hn4)
      clear ho4 hn4 hb4
      go_wp2_with fail
      refine hK.out _ _ ?_ (fun hHeld => ?_)
      · try dsimp only
        exact ⟨cell_later (unhide F) c0, cell_later (unhide F) c1⟩
      clear hK K
      try simp only [Act.put, List.setIfInBounds_toArray, List.set_cons_zero, List.set_cons_succ]
      refine held_take 6 (oi := { dst := some 2, op := Op.assign (Operand.tmp 12), type := 52, pos := "bytes.go:77", after := #[{ on := 5, ground := Ground.data }, { on := 5, ground := Ground.chain }, { on := 0, ground := Ground.phase }, { on := 1, ground := Ground.phase }, { on := 2, ground := Ground.phase }, { on := 3, ground := Ground.phase }, { on := 4, ground := Ground.phase }, { on := 5, ground := Ground.phase }], guard := none }) (v := ?_) (by kernel_rfl) rfl (by rfl) (by kernel_rfl) (by kernel_rfl) (fun _ _ _ h => h) ?_ (by assumption) ?_
      rotate_left
      · (intro w hSw; (try dsimp only at hSw); go_simp; try with_reducible rfl)
      try simp only [Act.put, List.setIfInBounds_toArray, List.set_cons_zero, List.set_cons_succ]
      refine held_take 7 (oi := { dst := some 3, op := Op.assign (Operand.const (Value.int IntKind.i64 0)), type := 41, pos := "bytes.go:77", after := #[{ on := 6, ground := Ground.chain }, { on := 0, ground := Ground.phase }, { on := 1, ground := Ground.phase }, { on := 2, ground := Ground.phase }, { on := 3, ground := Ground.phase }, { on := 4, ground := Ground.phase }, { on := 5, ground := Ground.phase }, { on := 6, ground := Ground.phase }], guard := none }) (v := ?_) (by kernel_rfl) rfl (by rfl) (by kernel_rfl) (by kernel_rfl) (fun _ _ _ h => h) ?_ (by assumption) ?_
      rotate_left
      · (intro w hSw; (try dsimp only at hSw); go_simp; try with_reducible rfl)
      try simp only [Act.put, List.setIfInBounds_toArray, List.set_cons_zero, List.set_cons_succ]
      refine wpAnyH_done (by kernel_rfl) ?_ _
      have FF := hide ((unhide B2).trans ((unhide F).mono (by have := (unhide B2).size; omega)))
      have SS := hide (show D ≤ w2.heap.size by have := (unhide B2).size; omega)
      go_wp2
      go_ret2
      exact ⟨sp4, n4, k4, rfl, N4, (unhide O4).mono (by first | exact unhide SS | (rw [hD]; exact unhide SS)), by first | exact unhide FF | (rw [hD]; exact unhide FF)⟩
    exact AllReadyH.nil
  exact AllReadyH.nil
set_option maxRecDepth 20000 in
set_option maxHeartbeats 4000000 in
theorem rputC_yes (h : mayM d n = true) : Calls Try.prog 36 #[cV d n] w fun e w' => ∃ sp m c, e = .returned (.tuple #[.slice sp m c, .int .i64 0]) ∧ Hid ([d.toNat, n.toNat].length = m) ∧ OwnB w.heap.size w' sp c [d.toNat, n.toNat] ∧ Below w.heap.size w w' := by
  obtain ⟨hd14, hn1, hn9⟩ := may_parts h
  have X1 := hide (heap_new w (cB d n))
  have b1 := hide (show Below w.heap.size w (w.alloc (cB d n)) from (Below.refl _ _).alloc (Nat.le_refl _) _)
  have c0 := box_cell (unhide X1) 0 _ rfl
  have c1 := box_cell (unhide X1) 1 _ rfl
  go_enter Try.func36, Try.ntmps36
  go_wp2_with fail
  generalize hD : w.heap.size = D at *
  generalize w.alloc (cB d n) = w1 at *
  refine (rightChange_calls d n _).mono ?_
  rintro e w2 ⟨rfl, b2⟩
  have B2 := hide ((unhide b1).trans (b2.mono (by have := (unhide b1).size; omega)))
  have X2 := hide (later_block b2 (unhide X1))
  rw [h]
  clear b2 c0 c1
  have c0 := box_cell (unhide X2) 0 _ rfl
  have c1 := box_cell (unhide X2) 1 _ rfl
  have F := hide (show Below w2.heap.size w2 w2.drew from (Below.refl _ _).drew)
  go_wp2_with fail
  refine wp_region_held_drew (S := fun w' => w'.cell? ⟨D, 0, none⟩ = some (.int .i64 d) ∧ w'.cell? ⟨D, 1, none⟩ = some (.int .i64 n)) (by kernel_rfl) ?_ (fun hHeld => ?_)
  · try dsimp only
    exact ⟨cell_later (unhide F) c0, cell_later (unhide F) c1⟩
  refine held_take 1 (oi := { dst := some 8, op := Op.fieldAddr 40 (Operand.tmp 1) 0, type := 0, pos := "ref.go:204", after := #[], guard := none }) (v := ?_) (by kernel_rfl) rfl (by rfl) (by kernel_rfl) (by kernel_rfl) (fun _ _ _ h => h) ?_ (by assumption) ?_
  rotate_left
  · (intro w hSw; (try dsimp only at hSw); go_simp; try with_reducible rfl)
  try simp only [Act.put, List.setIfInBounds_toArray, List.set_cons_zero, List.set_cons_succ]
  refine held_take 2 (oi := { dst := some 9, op := Op.load 38 (Operand.tmp 8), type := 38, pos := "ref.go:204", after := #[{ on := 1, ground := Ground.data }], guard := none }) (v := ?_) (by kernel_rfl) rfl (by rfl) (by kernel_rfl) (by kernel_rfl) (fun _ _ _ h => h) ?_ (by assumption) ?_
  rotate_left
  · (intro w hSw; (try dsimp only at hSw); go_simp; try with_reducible rfl)
  try simp only [Act.put, List.setIfInBounds_toArray, List.set_cons_zero, List.set_cons_succ]
  refine held_take 4 (oi := { dst := some 11, op := Op.fieldAddr 40 (Operand.tmp 1) 1, type := 0, pos := "ref.go:204", after := #[], guard := none }) (v := ?_) (by kernel_rfl) rfl (by rfl) (by kernel_rfl) (by kernel_rfl) (fun _ _ _ h => h) ?_ (by assumption) ?_
  rotate_left
  · (intro w hSw; (try dsimp only at hSw); go_simp; try with_reducible rfl)
  try simp only [Act.put, List.setIfInBounds_toArray, List.set_cons_zero, List.set_cons_succ]
  refine held_take 5 (oi := { dst := some 12, op := Op.load 3 (Operand.tmp 11), type := 3, pos := "ref.go:204", after := #[{ on := 4, ground := Ground.data }], guard := none }) (v := ?_) (by kernel_rfl) rfl (by rfl) (by kernel_rfl) (by kernel_rfl) (fun _ _ _ h => h) ?_ (by assumption) ?_
  rotate_left
  · (intro w hSw; (try dsimp only at hSw); go_simp; try with_reducible rfl)
  try simp only [Act.put, List.setIfInBounds_toArray, List.set_cons_zero, List.set_cons_succ]
  refine wpAnyH_ready (rs := [0]) (by kernel_rfl) (by simp) ?_
  refine AllReadyH.cons (o := { dst := some 7, op := Op.buildSlice 52 0 #[], type := 52, pos := "ref.go:204", after := #[], guard := none }) rfl (fun K hK => ?_) ?_
  · refine step_build8 rfl rfl w2.heap.size (unhide F).size ?_
    intro sp2 W2 ho2 hb2
    have F := hide ((unhide F).trans (hb2.mono (unhide F).size))
    have O2 := hide ho2
    clear ho2 hb2
    refine hK.out _ _ ?_ (fun hHeld => ?_)
    · try dsimp only
      exact ⟨cell_later (unhide F) c0, cell_later (unhide F) c1⟩
    clear hK K
    try simp only [Act.put, List.setIfInBounds_toArray, List.set_cons_zero, List.set_cons_succ]
    refine wpAnyH_ready (rs := [3]) (by kernel_rfl) (by simp) ?_
    refine AllReadyH.cons (o := { dst := some 10, op := Op.call { callee := Callee.value (Operand.func 60), args := #[Operand.tmp 7, Operand.tmp 9], argTypes := #[52, 3] }, type := 52, pos := "ref.go:204", after := #[{ on := 0, ground := Ground.data }, { on := 2, ground := Ground.data }], guard := none }) rfl (fun K hK => ?_) ?_
    · go_simp
      refine (radd_calls w2.heap.size 0 d rfl (unhide O2) (by simp) (by omega) (unhide F).size).mono ?_
      rintro e W3 ⟨sp3, n3, k3, rfl, hn3, ho3, hb3⟩
      have F := hide ((unhide F).trans hb3)
      have O3 := hide ho3
      have N3 := hide (unhide hn3)
      clear ho3 hn3 hb3
      go_wp2_with fail
      refine hK.out _ _ ?_ (fun hHeld => ?_)
      · try dsimp only
        exact ⟨cell_later (unhide F) c0, cell_later (unhide F) c1⟩
      clear hK K
      try simp only [Act.put, List.setIfInBounds_toArray, List.set_cons_zero, List.set_cons_succ]
      refine wpAnyH_ready (rs := [6]) (by kernel_rfl) (by simp) ?_
      refine AllReadyH.cons (o := { dst := some 13, op := Op.call { callee := Callee.value (Operand.func 60), args := #[Operand.tmp 10, Operand.tmp 12], argTypes := #[52, 3] }, type := 52, pos := "ref.go:204", after := #[{ on := 3, ground := Ground.data }, { on := 5, ground := Ground.data }, { on := 3, ground := Ground.chain }], guard := none }) rfl (fun K hK => ?_) ?_
      · go_simp
        refine (radd_calls w2.heap.size n3 n (unhide N3) (unhide O3) (by simp) (by omega) (unhide F).size).mono ?_
        rintro e W4 ⟨sp4, n4, k4, rfl, hn4, ho4, hb4⟩
        have F := hide ((unhide F).trans hb4)
        have O4 := hide ho4
        have N4 := hide (unhide hn4)
        clear ho4 hn4 hb4
        go_wp2_with fail
        refine hK.out _ _ ?_ (fun hHeld => ?_)
        · try dsimp only
          exact ⟨cell_later (unhide F) c0, cell_later (unhide F) c1⟩
        clear hK K
        try simp only [Act.put, List.setIfInBounds_toArray, List.set_cons_zero, List.set_cons_succ]
        refine held_take 7 (oi := { dst := some 2, op := Op.assign (Operand.tmp 13), type := 52, pos := "ref.go:204", after := #[{ on := 6, ground := Ground.data }, { on := 6, ground := Ground.chain }, { on := 0, ground := Ground.phase }, { on := 1, ground := Ground.phase }, { on := 2, ground := Ground.phase }, { on := 3, ground := Ground.phase }, { on := 4, ground := Ground.phase }, { on := 5, ground := Ground.phase }, { on := 6, ground := Ground.phase }], guard := none }) (v := ?_) (by kernel_rfl) rfl (by rfl) (by kernel_rfl) (by kernel_rfl) (fun _ _ _ h => h) ?_ (by assumption) ?_
        rotate_left
        · (intro w hSw; (try dsimp only at hSw); go_simp; try with_reducible rfl)
        try simp only [Act.put, List.setIfInBounds_toArray, List.set_cons_zero, List.set_cons_succ]
        refine held_take 8 (oi := { dst := some 3, op := Op.assign (Operand.const (Value.int IntKind.i64 0)), type := 41, pos := "ref.go:204", after := #[{ on := 7, ground := Ground.chain }, { on := 0, ground := Ground.phase }, { on := 1, ground := Ground.phase }, { on := 2, ground := Ground.phase }, { on := 3, ground := Ground.phase }, { on := 4, ground := Ground.phase }, { on := 5, ground := Ground.phase }, { on := 6, ground := Ground.phase }, { on := 7, ground := Ground.phase }], guard := none }) (v := ?_) (by kernel_rfl) rfl (by rfl) (by kernel_rfl) (by kernel_rfl) (fun _ _ _ h => h) ?_ (by assumption) ?_
        rotate_left
        · (intro w hSw; (try dsimp only at hSw); go_simp; try with_reducible rfl)
        try simp only [Act.put, List.setIfInBounds_toArray, List.set_cons_zero, List.set_cons_succ]
        refine wpAnyH_done (by kernel_rfl) ?_ _
        have FF := hide ((unhide B2).trans ((unhide F).mono (by have := (unhide B2).size; omega)))
        have SS := hide (show D ≤ w2.heap.size by have := (unhide B2).size; omega)
        go_wp2
        go_ret2
        exact ⟨sp4, n4, k4, rfl, N4, (unhide O4).mono (by first | exact unhide SS | (rw [hD]; exact unhide SS)), by first | exact unhide FF | (rw [hD]; exact unhide FF)⟩
      exact AllReadyH.nil
    exact AllReadyH.nil
  exact AllReadyH.nil
end
/-- Bytes that are told: those of what may be, and none else. -/
def putB (v l : List Int) : List Nat := if rightM v l then listB v ++ listB l else []
def putE (v l : List Int) : Int := if rightM v l then 0 else 2
def putCB (d n : Int) : List Nat := if mayM d n then [d.toNat, n.toNat] else []
def putCE (d n : Int) : Int := if mayM d n then 0 else 2
section
variable {w : World} {va : Option Addr} {vc : Nat} {v : List Int} {la : Option Addr} {lc : Nat} {l : List Int}
theorem mput_calls (hv : IntsAt w va v) (hl : IntsAt w la l) (vn ln : Nat) (hvn : v.length = vn) (hln : l.length = ln) (hvx : vn ≤ maxLen) (hlx : ln ≤ maxLen) :
    Calls Try.prog 33 #[mV va vn vc la ln lc] w fun e w' => ∃ sp n c, e = .returned (.tuple #[.slice sp n c, .int .i64 (putE v l)]) ∧ Hid ((putB v l).length = n) ∧ OwnB w.heap.size w' sp c (putB v l) ∧ Below w.heap.size w w' := by
  cases hr : rightM v l
  · have e1 : putB v l = [] := by rw [putB, hr]; rfl
    have e2 : putE v l = 2 := by rw [putE, hr]; rfl
    rw [e1, e2]
    exact (mput_no hv hl vn ln hvn hln hvx hlx hr).mono fun e w' ⟨he, hb⟩ => ⟨none, 0, 0, he, rfl, OwnB.ofNil _ _, hb⟩
  · have e1 : putB v l = listB v ++ listB l := by rw [putB, hr]; rfl
    have e2 : putE v l = 0 := by rw [putE, hr]; rfl
    rw [e1, e2]
    exact mput_yes hv hl vn ln hvn hln hvx hlx hr
theorem rput_calls (hv : IntsAt w va v) (hl : IntsAt w la l) (vn ln : Nat) (hvn : v.length = vn) (hln : l.length = ln) (hvx : vn ≤ maxLen) (hlx : ln ≤ maxLen) :
    Calls Try.prog 34 #[mV va vn vc la ln lc] w fun e w' => ∃ sp n c, e = .returned (.tuple #[.slice sp n c, .int .i64 (putE v l)]) ∧ Hid ((putB v l).length = n) ∧ OwnB w.heap.size w' sp c (putB v l) ∧ Below w.heap.size w w' := by
  cases hr : rightM v l
  · have e1 : putB v l = [] := by rw [putB, hr]; rfl
    have e2 : putE v l = 2 := by rw [putE, hr]; rfl
    rw [e1, e2]
    exact (rput_no hv hl vn ln hvn hln hvx hlx hr).mono fun e w' ⟨he, hb⟩ => ⟨none, 0, 0, he, rfl, OwnB.ofNil _ _, hb⟩
  · have e1 : putB v l = listB v ++ listB l := by rw [putB, hr]; rfl
    have e2 : putE v l = 0 := by rw [putE, hr]; rfl
    rw [e1, e2]
    exact rput_yes hv hl vn ln hvn hln hvx hlx hr
theorem mputC_calls (d n : Int) : Calls Try.prog 35 #[cV d n] w fun e w' => ∃ sp m c, e = .returned (.tuple #[.slice sp m c, .int .i64 (putCE d n)]) ∧ Hid ((putCB d n).length = m) ∧ OwnB w.heap.size w' sp c (putCB d n) ∧ Below w.heap.size w w' := by
  cases hr : mayM d n
  · have e1 : putCB d n = [] := by rw [putCB, hr]; rfl
    have e2 : putCE d n = 2 := by rw [putCE, hr]; rfl
    rw [e1, e2]
    exact (mputC_no hr).mono fun e w' ⟨he, hb⟩ => ⟨none, 0, 0, he, rfl, OwnB.ofNil _ _, hb⟩
  · have e1 : putCB d n = [d.toNat, n.toNat] := by rw [putCB, hr]; rfl
    have e2 : putCE d n = 0 := by rw [putCE, hr]; rfl
    rw [e1, e2]
    exact mputC_yes hr
theorem rputC_calls (d n : Int) : Calls Try.prog 36 #[cV d n] w fun e w' => ∃ sp m c, e = .returned (.tuple #[.slice sp m c, .int .i64 (putCE d n)]) ∧ Hid ((putCB d n).length = m) ∧ OwnB w.heap.size w' sp c (putCB d n) ∧ Below w.heap.size w w' := by
  cases hr : mayM d n
  · have e1 : putCB d n = [] := by rw [putCB, hr]; rfl
    have e2 : putCE d n = 2 := by rw [putCE, hr]; rfl
    rw [e1, e2]
    exact (rputC_no hr).mono fun e w' ⟨he, hb⟩ => ⟨none, 0, 0, he, rfl, OwnB.ofNil _ _, hb⟩
  · have e1 : putCB d n = [d.toNat, n.toNat] := by rw [putCB, hr]; rfl
    have e2 : putCE d n = 0 := by rw [putCE, hr]; rfl
    rw [e1, e2]
    exact rputC_yes hr
end
end Go.Proofs.Ytnclkkoefejjiaa
