/- Snapshots: the program's reader of bytes. -/
import Derived.Test.YtagncghpfdjkmaaGreatDoorB17
import Derived.Deep.QuietTactic
import Derived.BigQuiet
section
namespace Go.Proofs.YtagncghpfdjkmaaGreatDoor
open Go.ChangeShapes Go.WideShapes Go.ChangeAt Go.RowKit
set_option linter.unusedVariables false

/-- A reader at block R: its bytes, its place, its error. -/
structure SR (R : Nat) (w : World) (p : Option Addr) (c : Nat) (h : List Nat) (k e : Nat) : Prop where
  row : w.heap[R]? = some (.cells #[.slice p h.length c, .int .i64 (k : Int), .int .i64 (e : Int)] 92 (0, 0))
  by_ : BytesAt w p h
  ne : ∀ ad, p = some ad → ad.block ≠ R
  kl : k ≤ h.length
  hl : h.length ≤ 65536
  hc : h.length ≤ c
  hm : c ≤ maxLen
  hz : p = none → c = 0
section
variable {R : Nat} {w w' : World} {p : Option Addr} {c : Nat} {h : List Nat} {k e : Nat}
theorem SR.later (z : SR R w p c h k e) (u : Below w.heap.size w w') : SR R w' p c h k e := ⟨later_block u z.row, z.by_.later u, z.ne, z.kl, z.hl, z.hc, z.hm, z.hz⟩
theorem grown_of (u : Below w.heap.size w w') (o : Option Nat) : w.grownBy w' o := ⟨u.os, u.tape, u.output, u.size, fun g hg _ => u.block g hg⟩
theorem SR.setE (z : SR R w p c h k e) (x : Nat) : SR R (w.setCell ⟨R, 2, none⟩ (.int .i64 (x : Int))) p c h k x :=
  ⟨heap_setCell_same w R 2 _ _ _ z.row, z.by_.far (grown_set w R 2 _) (fun b off e => z.ne _ e), z.ne, z.kl, z.hl, z.hc, z.hm, z.hz⟩
theorem SR.setK (z : SR R w p c h k e) (x : Nat) (hx : x ≤ h.length) : SR R (w.setCell ⟨R, 1, none⟩ (.int .i64 (x : Int))) p c h x e :=
  ⟨heap_setCell_same w R 1 _ _ _ z.row, z.by_.far (grown_set w R 1 _) (fun b off e => z.ne _ e), z.ne, hx, z.hl, z.hc, z.hm, z.hz⟩
theorem SR.froz (z : SR R w p c h k e) (i : Nat) : w.frozen? ⟨R, i, none⟩ = false := by simp [World.frozen?, z.row]
theorem SR.c0 (z : SR R w p c h k e) : w.cell? ⟨R, 0, none⟩ = some (.slice p h.length c) := box_cell z.row 0 _ rfl
theorem SR.c1 (z : SR R w p c h k e) : w.cell? ⟨R, 1, none⟩ = some (.int .i64 (k : Int)) := box_cell z.row 1 _ rfl
theorem SR.c2 (z : SR R w p c h k e) : w.cell? ⟨R, 2, none⟩ = some (.int .i64 (e : Int)) := box_cell z.row 2 _ rfl
theorem sfail_calls (z : SR R w p c h k e) (x : Nat) :
    Calls Tryz.prog 106 #[.pointer (some ⟨R, 0, none⟩), .int .i64 (x : Int)] w fun en w' => en = .returned (.tuple #[]) ∧ SR R w' p c h k (failR e x) ∧ w.grownBy w' (some R) := by
  by_cases he : e = 0
  · subst he
    have c2 : w.cell? ⟨R, 2, none⟩ = some (.int .i64 0) := z.c2
    have f2 := z.froz 2
    have FE := hide (show SR R (w.setCell ⟨R, 2, none⟩ (.int .i64 (x : Int))) p c h k (failR 0 x) ∧ w.grownBy (w.setCell ⟨R, 2, none⟩ (.int .i64 (x : Int))) (some R) from ⟨z.setE x, grown_set w R 2 _⟩)
    clear z
    go_enter Tryz.func106, Tryz.ntmps106
    go_wp2
    go_end0
    exact ⟨rfl, unhide FE⟩
  · have c2 := z.c2
    have e1 : ¬ (e : Int) = 0 := by omega
    have e2 : ((e : Int) == 0) = false := by simp [he]
    have FE := hide (show SR R w p c h k (failR e x) ∧ w.grownBy w (some R) from ⟨by rw [failR_err he]; exact z, grown_of (Below.refl _ _) _⟩)
    clear z he
    generalize (e : Int) = ei at *
    go_enter Tryz.func106, Tryz.ntmps106
    go_wp2
    go_end0
    exact ⟨rfl, unhide FE⟩
/-- How a step that tells a number ends. -/
def NEnd (R : Nat) (w : World) (p : Option Addr) (c : Nat) (h : List Nat) (r : Nat × Nat × Nat) (en : Ending) (w' : World) : Prop := en = .returned (.int .i64 (r.1 : Int)) ∧ SR R w' p c h r.2.1 r.2.2 ∧ w.grownBy w' (some R)
set_option maxRecDepth 20000 in
set_option maxHeartbeats 4000000 in
theorem snumber_calls (z : SR R w p c h k e) : Calls Tryz.prog 105 #[.pointer (some ⟨R, 0, none⟩)] w (NEnd R w p c h (numR h k e)) := by
  by_cases he : e = 0
  · subst he
    have Z := hide z
    have d0 : w.drew.cell? ⟨R, 0, none⟩ = some (.slice p h.length c) := z.c0
    have d1 : w.drew.cell? ⟨R, 1, none⟩ = some (.int .i64 (k : Int)) := z.c1
    have c2 : w.cell? ⟨R, 2, none⟩ = some (.int .i64 0) := z.c2
    cases ht : takeE h k with
    | ok q =>
      obtain ⟨n, k2⟩ := q
      have TC := hide (takeNum_ok p h.length c h k n k2 w.drew rfl (by have := z.hl; simp only [maxLen]; omega) z.kl (z.by_.later ((Below.refl _ _).drew)) ht)
      have hk2 := (takeE_leb ht z.by_.lt).1
      have FE := hide (show ∀ W, Below w.heap.size w W → NEnd R w p c h (numR h k 0) (.returned (.int .i64 (n : Int))) (W.setCell ⟨R, 1, none⟩ (.int .i64 (k2 : Int))) from fun W u => by
        rw [numR_ok ht]
        exact ⟨rfl, (z.later u).setK k2 hk2, grown_trans (grown_of u _) (grown_set W R 1 _)⟩)
      have FZ := hide (show ∀ W, Below w.heap.size w W → W.frozen? ⟨R, 1, none⟩ = false ∧ W.cell? ⟨R, 1, none⟩ = some (.int .i64 (k : Int)) from fun W u => ⟨(z.later u).froz 1, (z.later u).c1⟩)
      clear z ht
      go_enter Tryz.func105, Tryz.ntmps105
      go_wp2_with fail
      refine wp_region_held_drew (S := fun w' => w'.cell? ⟨R, 0, none⟩ = some (.slice p h.length c) ∧ w'.cell? ⟨R, 1, none⟩ = some (.int .i64 (k : Int))) (by kernel_rfl) ?_ (fun hHeld => ?_)
      · try dsimp only
        first | exact ⟨d0, d1⟩ | exact ⟨e0, e1⟩
      refine held_take 0 (oi := { dst := some 12, op := Op.move (Operand.tmp 0), type := 153, pos := "snap.go:78", after := #[], guard := none }) (v := ?_) (by kernel_rfl) rfl (by rfl) (by kernel_rfl) (by kernel_rfl) (fun _ _ _ h => h) ?_ (by assumption) ?_
      rotate_left
      · (intro w hSw; (try dsimp only at hSw); go_simp; try with_reducible rfl)
      try simp only [Act.put, List.setIfInBounds_toArray, List.set_cons_zero, List.set_cons_succ]
      refine held_take 1 (oi := { dst := some 13, op := Op.nilCheck (Operand.tmp 12), type := 0, pos := "snap.go:78", after := #[{ on := 0, ground := Ground.data }], guard := none }) (v := ?_) (by kernel_rfl) rfl (by rfl) (by kernel_rfl) (by kernel_rfl) (fun _ _ _ h => h) ?_ (by assumption) ?_
      rotate_left
      · (intro w hSw; (try dsimp only at hSw); go_simp; try with_reducible rfl)
      try simp only [Act.put, List.setIfInBounds_toArray, List.set_cons_zero, List.set_cons_succ]
      refine held_take 2 (oi := { dst := some 14, op := Op.fieldAddr 92 (Operand.tmp 13) 0, type := 0, pos := "snap.go:78", after := #[{ on := 1, ground := Ground.data }], guard := none }) (v := ?_) (by kernel_rfl) rfl (by rfl) (by kernel_rfl) (by kernel_rfl) (fun _ _ _ h => h) ?_ (by assumption) ?_
      rotate_left
      · (intro w hSw; (try dsimp only at hSw); go_simp; try with_reducible rfl)
      try simp only [Act.put, List.setIfInBounds_toArray, List.set_cons_zero, List.set_cons_succ]
      refine held_take 3 (oi := { dst := some 15, op := Op.load 27 (Operand.tmp 14), type := 27, pos := "snap.go:78", after := #[{ on := 2, ground := Ground.data }], guard := none }) (v := ?_) (by kernel_rfl) rfl (by rfl) (by kernel_rfl) (by kernel_rfl) (fun _ _ _ h => h) ?_ (by assumption) ?_
      rotate_left
      · (intro w hSw; (try dsimp only at hSw); go_simp; try with_reducible rfl)
      try simp only [Act.put, List.setIfInBounds_toArray, List.set_cons_zero, List.set_cons_succ]
      refine held_take 4 (oi := { dst := some 16, op := Op.move (Operand.tmp 0), type := 153, pos := "snap.go:78", after := #[], guard := none }) (v := ?_) (by kernel_rfl) rfl (by rfl) (by kernel_rfl) (by kernel_rfl) (fun _ _ _ h => h) ?_ (by assumption) ?_
      rotate_left
      · (intro w hSw; (try dsimp only at hSw); go_simp; try with_reducible rfl)
      try simp only [Act.put, List.setIfInBounds_toArray, List.set_cons_zero, List.set_cons_succ]
      refine held_take 5 (oi := { dst := some 17, op := Op.nilCheck (Operand.tmp 16), type := 0, pos := "snap.go:78", after := #[{ on := 4, ground := Ground.data }], guard := none }) (v := ?_) (by kernel_rfl) rfl (by rfl) (by kernel_rfl) (by kernel_rfl) (fun _ _ _ h => h) ?_ (by assumption) ?_
      rotate_left
      · (intro w hSw; (try dsimp only at hSw); go_simp; try with_reducible rfl)
      try simp only [Act.put, List.setIfInBounds_toArray, List.set_cons_zero, List.set_cons_succ]
      refine held_take 6 (oi := { dst := some 18, op := Op.fieldAddr 92 (Operand.tmp 17) 1, type := 0, pos := "snap.go:78", after := #[{ on := 5, ground := Ground.data }], guard := none }) (v := ?_) (by kernel_rfl) rfl (by rfl) (by kernel_rfl) (by kernel_rfl) (fun _ _ _ h => h) ?_ (by assumption) ?_
      rotate_left
      · (intro w hSw; (try dsimp only at hSw); go_simp; try with_reducible rfl)
      try simp only [Act.put, List.setIfInBounds_toArray, List.set_cons_zero, List.set_cons_succ]
      refine held_take 7 (oi := { dst := some 19, op := Op.load 3 (Operand.tmp 18), type := 3, pos := "snap.go:78", after := #[{ on := 6, ground := Ground.data }], guard := none }) (v := ?_) (by kernel_rfl) rfl (by rfl) (by kernel_rfl) (by kernel_rfl) (fun _ _ _ h => h) ?_ (by assumption) ?_
      rotate_left
      · (intro w hSw; (try dsimp only at hSw); go_simp; try with_reducible rfl)
      try simp only [Act.put, List.setIfInBounds_toArray, List.set_cons_zero, List.set_cons_succ]
      refine held_one 8 (oi := { dst := some 20, op := Op.call { callee := Callee.value (Operand.func 124), args := #[Operand.tmp 15, Operand.tmp 19], argTypes := #[27, 3] }, type := 95, pos := "snap.go:78", after := #[{ on := 3, ground := Ground.data }, { on := 7, ground := Ground.data }], guard := none }) (by kernel_rfl) rfl (fun K hK => ?_)
      go_simp
      first
        | (go_at_call 124
           refine (unhide TC).mono ?_
           rintro e V1 ⟨rfl, v1⟩
           have e0 := cell_later v1 d0
           have e1 := cell_later v1 d1
           have U1 := hide (show Below w.heap.size w V1 from ⟨v1.os, v1.tape, v1.output, v1.size, v1.block⟩)
           clear v1)
      go_wp2_with fail
      refine hK.out _ _ ?_ (fun hHeld => ?_)
      · try dsimp only
        first | exact ⟨d0, d1⟩ | exact ⟨e0, e1⟩
      clear hK K
      try simp only [Act.put, List.setIfInBounds_toArray, List.set_cons_zero, List.set_cons_succ]
      refine held_take 9 (oi := { dst := some 11, op := Op.move (Operand.tmp 20), type := 95, pos := "snap.go:78", after := #[{ on := 8, ground := Ground.data }], guard := none }) (v := ?_) (by kernel_rfl) rfl (by rfl) (by kernel_rfl) (by kernel_rfl) (fun _ _ _ h => h) ?_ (by assumption) ?_
      rotate_left
      · (intro w hSw; (try dsimp only at hSw); go_simp; try with_reducible rfl)
      try simp only [Act.put, List.setIfInBounds_toArray, List.set_cons_zero, List.set_cons_succ]
      refine held_take 10 (oi := { dst := some 21, op := Op.extract (Operand.tmp 11) 0, type := 3, pos := "snap.go:78", after := #[{ on := 9, ground := Ground.data }], guard := none }) (v := ?_) (by kernel_rfl) rfl (by rfl) (by kernel_rfl) (by kernel_rfl) (fun _ _ _ h => h) ?_ (by assumption) ?_
      rotate_left
      · (intro w hSw; (try dsimp only at hSw); go_simp; try with_reducible rfl)
      try simp only [Act.put, List.setIfInBounds_toArray, List.set_cons_zero, List.set_cons_succ]
      refine held_take 11 (oi := { dst := some 22, op := Op.extract (Operand.tmp 11) 1, type := 3, pos := "snap.go:78", after := #[{ on := 9, ground := Ground.data }, { on := 13, ground := Ground.gcOnly Departure.lateStores }], guard := none }) (v := ?_) (by kernel_rfl) rfl (by rfl) (by kernel_rfl) (by kernel_rfl) (fun _ _ _ h => h) ?_ (by assumption) ?_
      rotate_left
      · (intro w hSw; (try dsimp only at hSw); go_simp; try with_reducible rfl)
      try simp only [Act.put, List.setIfInBounds_toArray, List.set_cons_zero, List.set_cons_succ]
      refine held_take 12 (oi := { dst := some 23, op := Op.extract (Operand.tmp 11) 2, type := 31, pos := "snap.go:78", after := #[{ on := 9, ground := Ground.data }, { on := 14, ground := Ground.gcOnly Departure.lateStores }], guard := none }) (v := ?_) (by kernel_rfl) rfl (by rfl) (by kernel_rfl) (by kernel_rfl) (fun _ _ _ h => h) ?_ (by assumption) ?_
      rotate_left
      · (intro w hSw; (try dsimp only at hSw); go_simp; try with_reducible rfl)
      try simp only [Act.put, List.setIfInBounds_toArray, List.set_cons_zero, List.set_cons_succ]
      refine held_take 13 (oi := { dst := some 3, op := Op.assign (Operand.tmp 21), type := 3, pos := "snap.go:78", after := #[{ on := 10, ground := Ground.data }, { on := 8, ground := Ground.chain }, { on := 0, ground := Ground.phase }, { on := 1, ground := Ground.phase }, { on := 2, ground := Ground.phase }, { on := 3, ground := Ground.phase }, { on := 4, ground := Ground.phase }, { on := 5, ground := Ground.phase }, { on := 6, ground := Ground.phase }, { on := 7, ground := Ground.phase }, { on := 8, ground := Ground.phase }, { on := 9, ground := Ground.phase }, { on := 10, ground := Ground.phase }, { on := 11, ground := Ground.textOnly Departure.lateStores }, { on := 12, ground := Ground.textOnly Departure.lateStores }], guard := none }) (v := ?_) (by kernel_rfl) rfl (by rfl) (by kernel_rfl) (by kernel_rfl) (fun _ _ _ h => h) ?_ (by assumption) ?_
      rotate_left
      · (intro w hSw; (try dsimp only at hSw); go_simp; try with_reducible rfl)
      try simp only [Act.put, List.setIfInBounds_toArray, List.set_cons_zero, List.set_cons_succ]
      refine held_take 14 (oi := { dst := some 4, op := Op.assign (Operand.tmp 22), type := 3, pos := "snap.go:78", after := #[{ on := 11, ground := Ground.data }, { on := 13, ground := Ground.chain }, { on := 0, ground := Ground.phase }, { on := 1, ground := Ground.phase }, { on := 2, ground := Ground.phase }, { on := 3, ground := Ground.phase }, { on := 4, ground := Ground.phase }, { on := 5, ground := Ground.phase }, { on := 6, ground := Ground.phase }, { on := 7, ground := Ground.phase }, { on := 8, ground := Ground.phase }, { on := 9, ground := Ground.phase }, { on := 10, ground := Ground.phase }, { on := 11, ground := Ground.phase }, { on := 12, ground := Ground.textOnly Departure.lateStores }, { on := 13, ground := Ground.phase }], guard := none }) (v := ?_) (by kernel_rfl) rfl (by rfl) (by kernel_rfl) (by kernel_rfl) (fun _ _ _ h => h) ?_ (by assumption) ?_
      rotate_left
      · (intro w hSw; (try dsimp only at hSw); go_simp; try with_reducible rfl)
      try simp only [Act.put, List.setIfInBounds_toArray, List.set_cons_zero, List.set_cons_succ]
      refine held_take 15 (oi := { dst := some 5, op := Op.assign (Operand.tmp 23), type := 31, pos := "snap.go:78", after := #[{ on := 12, ground := Ground.data }, { on := 14, ground := Ground.chain }, { on := 0, ground := Ground.phase }, { on := 1, ground := Ground.phase }, { on := 2, ground := Ground.phase }, { on := 3, ground := Ground.phase }, { on := 4, ground := Ground.phase }, { on := 5, ground := Ground.phase }, { on := 6, ground := Ground.phase }, { on := 7, ground := Ground.phase }, { on := 8, ground := Ground.phase }, { on := 9, ground := Ground.phase }, { on := 10, ground := Ground.phase }, { on := 11, ground := Ground.phase }, { on := 12, ground := Ground.phase }, { on := 13, ground := Ground.phase }, { on := 14, ground := Ground.phase }], guard := none }) (v := ?_) (by kernel_rfl) rfl (by rfl) (by kernel_rfl) (by kernel_rfl) (fun _ _ _ h => h) ?_ (by assumption) ?_
      rotate_left
      · (intro w hSw; (try dsimp only at hSw); go_simp; try with_reducible rfl)
      try simp only [Act.put, List.setIfInBounds_toArray, List.set_cons_zero, List.set_cons_succ]
      refine wpAnyH_done (by kernel_rfl) ?_ _
      obtain ⟨f1, g1⟩ := unhide FZ V1 (unhide U1)
      have FF := hide (unhide FE V1 (unhide U1))
      clear FE FZ
      go_wp2
      go_ret
      exact unhide FF
    | error x =>
      have hx := takeE_pos ht
      have TC := hide (takeNum_bad p h.length c h k x w.drew rfl (by have := z.hl; simp only [maxLen]; omega) z.kl (z.by_.later ((Below.refl _ _).drew)) ht)
      have FC := hide (fun W (u : Below w.heap.size w W) => sfail_calls (z.later u) x)
      have FE := hide (show ∀ W W', Below w.heap.size w W → SR R W' p c h k (failR 0 x) → W.grownBy W' (some R) → NEnd R w p c h (numR h k 0) (.returned (.int .i64 0)) W' from fun W W' u z' g => by
        rw [numR_bad ht]
        exact ⟨rfl, z', grown_trans (grown_of u _) g⟩)
      have x1 : ¬ (x : Int) = 0 := by omega
      have x2 : ((x : Int) == 0) = false := by simp [hx]
      clear z ht hx
      go_enter Tryz.func105, Tryz.ntmps105
      go_wp2_with fail
      generalize hxi : (x : Int) = xi at *
      refine wp_region_held_drew (S := fun w' => w'.cell? ⟨R, 0, none⟩ = some (.slice p h.length c) ∧ w'.cell? ⟨R, 1, none⟩ = some (.int .i64 (k : Int))) (by kernel_rfl) ?_ (fun hHeld => ?_)
      · try dsimp only
        first | exact ⟨d0, d1⟩ | exact ⟨e0, e1⟩
      refine held_take 0 (oi := { dst := some 12, op := Op.move (Operand.tmp 0), type := 153, pos := "snap.go:78", after := #[], guard := none }) (v := ?_) (by kernel_rfl) rfl (by rfl) (by kernel_rfl) (by kernel_rfl) (fun _ _ _ h => h) ?_ (by assumption) ?_
      rotate_left
      · (intro w hSw; (try dsimp only at hSw); go_simp; try with_reducible rfl)
      try simp only [Act.put, List.setIfInBounds_toArray, List.set_cons_zero, List.set_cons_succ]
      refine held_take 1 (oi := { dst := some 13, op := Op.nilCheck (Operand.tmp 12), type := 0, pos := "snap.go:78", after := #[{ on := 0, ground := Ground.data }], guard := none }) (v := ?_) (by kernel_rfl) rfl (by rfl) (by kernel_rfl) (by kernel_rfl) (fun _ _ _ h => h) ?_ (by assumption) ?_
      rotate_left
      · (intro w hSw; (try dsimp only at hSw); go_simp; try with_reducible rfl)
      try simp only [Act.put, List.setIfInBounds_toArray, List.set_cons_zero, List.set_cons_succ]
      refine held_take 2 (oi := { dst := some 14, op := Op.fieldAddr 92 (Operand.tmp 13) 0, type := 0, pos := "snap.go:78", after := #[{ on := 1, ground := Ground.data }], guard := none }) (v := ?_) (by kernel_rfl) rfl (by rfl) (by kernel_rfl) (by kernel_rfl) (fun _ _ _ h => h) ?_ (by assumption) ?_
      rotate_left
      · (intro w hSw; (try dsimp only at hSw); go_simp; try with_reducible rfl)
      try simp only [Act.put, List.setIfInBounds_toArray, List.set_cons_zero, List.set_cons_succ]
      refine held_take 3 (oi := { dst := some 15, op := Op.load 27 (Operand.tmp 14), type := 27, pos := "snap.go:78", after := #[{ on := 2, ground := Ground.data }], guard := none }) (v := ?_) (by kernel_rfl) rfl (by rfl) (by kernel_rfl) (by kernel_rfl) (fun _ _ _ h => h) ?_ (by assumption) ?_
      rotate_left
      · (intro w hSw; (try dsimp only at hSw); go_simp; try with_reducible rfl)
      try simp only [Act.put, List.setIfInBounds_toArray, List.set_cons_zero, List.set_cons_succ]
      refine held_take 4 (oi := { dst := some 16, op := Op.move (Operand.tmp 0), type := 153, pos := "snap.go:78", after := #[], guard := none }) (v := ?_) (by kernel_rfl) rfl (by rfl) (by kernel_rfl) (by kernel_rfl) (fun _ _ _ h => h) ?_ (by assumption) ?_
      rotate_left
      · (intro w hSw; (try dsimp only at hSw); go_simp; try with_reducible rfl)
      try simp only [Act.put, List.setIfInBounds_toArray, List.set_cons_zero, List.set_cons_succ]
      refine held_take 5 (oi := { dst := some 17, op := Op.nilCheck (Operand.tmp 16), type := 0, pos := "snap.go:78", after := #[{ on := 4, ground := Ground.data }], guard := none }) (v := ?_) (by kernel_rfl) rfl (by rfl) (by kernel_rfl) (by kernel_rfl) (fun _ _ _ h => h) ?_ (by assumption) ?_
      rotate_left
      · (intro w hSw; (try dsimp only at hSw); go_simp; try with_reducible rfl)
      try simp only [Act.put, List.setIfInBounds_toArray, List.set_cons_zero, List.set_cons_succ]
      refine held_take 6 (oi := { dst := some 18, op := Op.fieldAddr 92 (Operand.tmp 17) 1, type := 0, pos := "snap.go:78", after := #[{ on := 5, ground := Ground.data }], guard := none }) (v := ?_) (by kernel_rfl) rfl (by rfl) (by kernel_rfl) (by kernel_rfl) (fun _ _ _ h => h) ?_ (by assumption) ?_
      rotate_left
      · (intro w hSw; (try dsimp only at hSw); go_simp; try with_reducible rfl)
      try simp only [Act.put, List.setIfInBounds_toArray, List.set_cons_zero, List.set_cons_succ]
      refine held_take 7 (oi := { dst := some 19, op := Op.load 3 (Operand.tmp 18), type := 3, pos := "snap.go:78", after := #[{ on := 6, ground := Ground.data }], guard := none }) (v := ?_) (by kernel_rfl) rfl (by rfl) (by kernel_rfl) (by kernel_rfl) (fun _ _ _ h => h) ?_ (by assumption) ?_
      rotate_left
      · (intro w hSw; (try dsimp only at hSw); go_simp; try with_reducible rfl)
      try simp only [Act.put, List.setIfInBounds_toArray, List.set_cons_zero, List.set_cons_succ]
      refine held_one 8 (oi := { dst := some 20, op := Op.call { callee := Callee.value (Operand.func 124), args := #[Operand.tmp 15, Operand.tmp 19], argTypes := #[27, 3] }, type := 95, pos := "snap.go:78", after := #[{ on := 3, ground := Ground.data }, { on := 7, ground := Ground.data }], guard := none }) (by kernel_rfl) rfl (fun K hK => ?_)
      go_simp
      first
        | (go_at_call 124
           refine (unhide TC).mono ?_
           rintro e V1 ⟨rfl, v1⟩
           have e0 := cell_later v1 d0
           have e1 := cell_later v1 d1
           have U1 := hide (show Below w.heap.size w V1 from ⟨v1.os, v1.tape, v1.output, v1.size, v1.block⟩)
           clear v1)
      go_wp2_with fail
      refine hK.out _ _ ?_ (fun hHeld => ?_)
      · try dsimp only
        first | exact ⟨d0, d1⟩ | exact ⟨e0, e1⟩
      clear hK K
      try simp only [Act.put, List.setIfInBounds_toArray, List.set_cons_zero, List.set_cons_succ]
      refine held_take 9 (oi := { dst := some 11, op := Op.move (Operand.tmp 20), type := 95, pos := "snap.go:78", after := #[{ on := 8, ground := Ground.data }], guard := none }) (v := ?_) (by kernel_rfl) rfl (by rfl) (by kernel_rfl) (by kernel_rfl) (fun _ _ _ h => h) ?_ (by assumption) ?_
      rotate_left
      · (intro w hSw; (try dsimp only at hSw); go_simp; try with_reducible rfl)
      try simp only [Act.put, List.setIfInBounds_toArray, List.set_cons_zero, List.set_cons_succ]
      refine held_take 10 (oi := { dst := some 21, op := Op.extract (Operand.tmp 11) 0, type := 3, pos := "snap.go:78", after := #[{ on := 9, ground := Ground.data }], guard := none }) (v := ?_) (by kernel_rfl) rfl (by rfl) (by kernel_rfl) (by kernel_rfl) (fun _ _ _ h => h) ?_ (by assumption) ?_
      rotate_left
      · (intro w hSw; (try dsimp only at hSw); go_simp; try with_reducible rfl)
      try simp only [Act.put, List.setIfInBounds_toArray, List.set_cons_zero, List.set_cons_succ]
      refine held_take 11 (oi := { dst := some 22, op := Op.extract (Operand.tmp 11) 1, type := 3, pos := "snap.go:78", after := #[{ on := 9, ground := Ground.data }, { on := 13, ground := Ground.gcOnly Departure.lateStores }], guard := none }) (v := ?_) (by kernel_rfl) rfl (by rfl) (by kernel_rfl) (by kernel_rfl) (fun _ _ _ h => h) ?_ (by assumption) ?_
      rotate_left
      · (intro w hSw; (try dsimp only at hSw); go_simp; try with_reducible rfl)
      try simp only [Act.put, List.setIfInBounds_toArray, List.set_cons_zero, List.set_cons_succ]
      refine held_take 12 (oi := { dst := some 23, op := Op.extract (Operand.tmp 11) 2, type := 31, pos := "snap.go:78", after := #[{ on := 9, ground := Ground.data }, { on := 14, ground := Ground.gcOnly Departure.lateStores }], guard := none }) (v := ?_) (by kernel_rfl) rfl (by rfl) (by kernel_rfl) (by kernel_rfl) (fun _ _ _ h => h) ?_ (by assumption) ?_
      rotate_left
      · (intro w hSw; (try dsimp only at hSw); go_simp; try with_reducible rfl)
      try simp only [Act.put, List.setIfInBounds_toArray, List.set_cons_zero, List.set_cons_succ]
      refine held_take 13 (oi := { dst := some 3, op := Op.assign (Operand.tmp 21), type := 3, pos := "snap.go:78", after := #[{ on := 10, ground := Ground.data }, { on := 8, ground := Ground.chain }, { on := 0, ground := Ground.phase }, { on := 1, ground := Ground.phase }, { on := 2, ground := Ground.phase }, { on := 3, ground := Ground.phase }, { on := 4, ground := Ground.phase }, { on := 5, ground := Ground.phase }, { on := 6, ground := Ground.phase }, { on := 7, ground := Ground.phase }, { on := 8, ground := Ground.phase }, { on := 9, ground := Ground.phase }, { on := 10, ground := Ground.phase }, { on := 11, ground := Ground.textOnly Departure.lateStores }, { on := 12, ground := Ground.textOnly Departure.lateStores }], guard := none }) (v := ?_) (by kernel_rfl) rfl (by rfl) (by kernel_rfl) (by kernel_rfl) (fun _ _ _ h => h) ?_ (by assumption) ?_
      rotate_left
      · (intro w hSw; (try dsimp only at hSw); go_simp; try with_reducible rfl)
      try simp only [Act.put, List.setIfInBounds_toArray, List.set_cons_zero, List.set_cons_succ]
      refine held_take 14 (oi := { dst := some 4, op := Op.assign (Operand.tmp 22), type := 3, pos := "snap.go:78", after := #[{ on := 11, ground := Ground.data }, { on := 13, ground := Ground.chain }, { on := 0, ground := Ground.phase }, { on := 1, ground := Ground.phase }, { on := 2, ground := Ground.phase }, { on := 3, ground := Ground.phase }, { on := 4, ground := Ground.phase }, { on := 5, ground := Ground.phase }, { on := 6, ground := Ground.phase }, { on := 7, ground := Ground.phase }, { on := 8, ground := Ground.phase }, { on := 9, ground := Ground.phase }, { on := 10, ground := Ground.phase }, { on := 11, ground := Ground.phase }, { on := 12, ground := Ground.textOnly Departure.lateStores }, { on := 13, ground := Ground.phase }], guard := none }) (v := ?_) (by kernel_rfl) rfl (by rfl) (by kernel_rfl) (by kernel_rfl) (fun _ _ _ h => h) ?_ (by assumption) ?_
      rotate_left
      · (intro w hSw; (try dsimp only at hSw); go_simp; try with_reducible rfl)
      try simp only [Act.put, List.setIfInBounds_toArray, List.set_cons_zero, List.set_cons_succ]
      refine held_take 15 (oi := { dst := some 5, op := Op.assign (Operand.tmp 23), type := 31, pos := "snap.go:78", after := #[{ on := 12, ground := Ground.data }, { on := 14, ground := Ground.chain }, { on := 0, ground := Ground.phase }, { on := 1, ground := Ground.phase }, { on := 2, ground := Ground.phase }, { on := 3, ground := Ground.phase }, { on := 4, ground := Ground.phase }, { on := 5, ground := Ground.phase }, { on := 6, ground := Ground.phase }, { on := 7, ground := Ground.phase }, { on := 8, ground := Ground.phase }, { on := 9, ground := Ground.phase }, { on := 10, ground := Ground.phase }, { on := 11, ground := Ground.phase }, { on := 12, ground := Ground.phase }, { on := 13, ground := Ground.phase }, { on := 14, ground := Ground.phase }], guard := none }) (v := ?_) (by kernel_rfl) rfl (by rfl) (by kernel_rfl) (by kernel_rfl) (fun _ _ _ h => h) ?_ (by assumption) ?_
      rotate_left
      · (intro w hSw; (try dsimp only at hSw); go_simp; try with_reducible rfl)
      try simp only [Act.put, List.setIfInBounds_toArray, List.set_cons_zero, List.set_cons_succ]
      refine wpAnyH_done (by kernel_rfl) ?_ _
      have FD := hide (unhide FC V1 (unhide U1))
      go_wp2_with fail
      go_at_call 106
      refine (unhide FD).mono ?_
      rintro e V2 ⟨rfl, z2, g2⟩
      have FF := hide (unhide FE V1 V2 (unhide U1) z2 g2)
      clear z2 g2 FE FC FD
      go_wp2
      go_ret
      exact unhide FF
  · have c2 := z.c2
    have e1 : ¬ (e : Int) = 0 := by omega
    have e2 : ((e : Int) == 0) = false := by simp [he]
    have FE := hide (show NEnd R w p c h (numR h k e) (.returned (.int .i64 0)) w from by
      rw [numR_err he]
      exact ⟨rfl, z, grown_of (Below.refl _ _) _⟩)
    clear z he
    generalize (e : Int) = ei at *
    go_enter Tryz.func105, Tryz.ntmps105
    go_wp2
    go_ret
    exact unhide FE
theorem spos_calls (z : SR R w p c h k e) : Calls Tryz.prog 59 #[.pointer (some ⟨R, 0, none⟩)] w (NEnd R w p c h (posR h k e)) := by
  have NC := hide (snumber_calls z)
  unfold NEnd at NC
  have EQ := hide (show posR h k e = ((numR h k e).1, (numR h k e).2.1, if (numR h k e).1 = 0 then failR (numR h k e).2.2 4 else (numR h k e).2.2) from rfl)
  generalize numR h k e = q at *
  obtain ⟨n, k1, e1⟩ := q
  dsimp only at NC EQ
  clear z
  by_cases hn : n = 0
  · subst hn
    go_enter Tryz.func59, Tryz.ntmps59
    go_wp2_with fail
    go_at_call 105
    refine (unhide NC).mono ?_
    rintro e V1 ⟨rfl, z1, g1⟩
    rw [show ((0 : Nat) : Int) = 0 from rfl]
    have FC := hide (sfail_calls z1 4)
    have G1 := hide g1
    clear z1 g1
    go_wp2_with fail
    go_at_call 106
    refine (unhide FC).mono ?_
    rintro e V2 ⟨rfl, z2, g2⟩
    have FF := hide (show NEnd R w p c h (posR h k e) (.returned (.int .i64 0)) V2 from by
      rw [unhide EQ]
      exact ⟨rfl, z2, grown_trans (unhide G1) g2⟩)
    clear z2 g2
    go_wp2
    go_ret
    exact unhide FF
  · have n1 : ¬ (n : Int) = 0 := by omega
    have n2 : ((n : Int) == 0) = false := by simp [hn]
    have HN := hide hn
    clear hn
    go_enter Tryz.func59, Tryz.ntmps59
    go_wp2_with fail
    go_at_call 105
    refine (unhide NC).mono ?_
    rintro e V1 ⟨rfl, z1, g1⟩
    have FF := hide (show NEnd R w p c h (posR h k e) (.returned (.int .i64 (n : Int))) V1 from by
      rw [unhide EQ, if_neg (unhide HN)]
      exact ⟨rfl, z1, g1⟩)
    clear z1 g1 NC EQ
    go_wp2
    go_ret
    exact unhide FF
end
end Go.Proofs.YtagncghpfdjkmaaGreatDoor
end
/- Snapshots: the program's reader: take, end. -/
section
namespace Go.Proofs.YtagncghpfdjkmaaGreatDoor
open Go.ChangeShapes Go.WideShapes Go.ChangeAt Go.RowKit
set_option linter.unusedVariables false

section
variable {R : Nat} {w w' : World} {p : Option Addr} {c : Nat} {h : List Nat} {k e : Nat}
/-- Bytes that lie in the reader's own. -/
structure Part (R : Nat) (w : World) (p sp : Option Addr) (m cc : Nat) (b : List Nat) : Prop where
  len : b.length = m
  cap : m ≤ cc
  mx : cc ≤ maxLen
  by_ : BytesAt w sp b
  nz : sp = none → cc = 0
  of : ∀ ad, sp = some ad → ∃ ad', p = some ad' ∧ ad'.block = ad.block
theorem Part.nil (R : Nat) (w : World) (p : Option Addr) : Part R w p none 0 0 [] := ⟨rfl, Nat.le_refl _, by simp, ⟨by simp, fun i hi => by simp at hi⟩, fun _ => rfl, fun ad e => by cases e⟩
theorem Part.far {sp : Option Addr} {m cc : Nat} {b : List Nat} (x : Part R w p sp m cc b) (g : w.grownBy w' (some R)) (ne : ∀ ad, p = some ad → ad.block ≠ R) : Part R w' p sp m cc b :=
  ⟨x.len, x.cap, x.mx, x.by_.far g (fun b off e => by obtain ⟨a', h, hb⟩ := x.of _ e; rw [← show a'.block = b from hb]; exact ne a' h), x.nz, x.of⟩
theorem slp_of {p : Option Addr} {k c : Nat} : ∀ ad, slp p k c = some ad → ∃ ad', p = some ad' ∧ ad'.block = ad.block := by
  intro ad e
  unfold slp at e
  split at e
  · exact ⟨ad, e, rfl⟩
  · cases p with
    | none => cases e
    | some a' =>
      simp only [Option.map_some, Option.some.injEq] at e
      refine ⟨a', rfl, ?_⟩
      rw [← e]
      unfold Addr.add
      split <;> rfl
theorem slp_none {p : Option Addr} {k c : Nat} (h : slp p k c = none) (hz : p = none → c = 0) : c - k = 0 := by
  unfold slp at h
  split at h
  · omega
  · cases p with
    | none => have := hz rfl; omega
    | some ad => cases h
/-- How take ends. -/
def CEnd (R : Nat) (w : World) (p : Option Addr) (c : Nat) (h : List Nat) (r : List Nat × Nat × Nat) (en : Ending) (w' : World) : Prop := ∃ sp m cc, en = .returned (.slice sp m cc) ∧ Part R w' p sp m cc r.1 ∧ SR R w' p c h r.2.1 r.2.2 ∧ w.grownBy w' (some R)
set_option maxRecDepth 20000 in
set_option maxHeartbeats 4000000 in
theorem stake_calls (z : SR R w p c h k e) (n : Nat) (hn : n ≤ 1099511627776) : Calls Tryz.prog 108 #[.pointer (some ⟨R, 0, none⟩), .int .i64 (n : Int)] w (CEnd R w p c h (cutR h k e n)) := by
  have hkl := z.kl
  have hhl := z.hl
  have c0 := z.c0
  have c1 := z.c1
  have hwr : IntKind.i64.wrap ((h.length : Int) - (k : Int)) = ((h.length - k : Nat) : Int) := by rw [IntKind.wrap_i64]; omega
  by_cases hs : h.length - k < n
  · have s1 : ((h.length - k : Nat) : Int) < (n : Int) := by omega
    have s2 : decide (((h.length - k : Nat) : Int) < (n : Int)) = true := decide_eq_true s1
    have FC := hide (fun W (u : Below w.heap.size w W) => sfail_calls (z.later u) 3)
    have EQ := hide (show cutR h k e n = ([], k, failR e 3) by
      have : failR e 3 ≠ 0 := by unfold failR; split <;> omega
      simp [cutR, cutE, hs, this])
    have HF := hide (show failR e 3 ≠ 0 by unfold failR; split <;> omega)
    generalize h.length - k = d at *
    generalize hL : h.length = L at *
    clear z hs
    go_enter Tryz.func108, Tryz.ntmps108
    go_wp2_with fail
    go_quiet (fail)
    go_wp2_with fail
    go_at_call 106
    refine (unhide FC _ (_root_.Go.below_drewN (Below.refl _ _) _)).mono ?_
    rintro en V1 ⟨rfl, z1, g1⟩
    have d2 := z1.c2
    have x1 : ¬ ((failR e 3 : Nat) : Int) = 0 := by have := unhide HF; omega
    have x2 : (((failR e 3 : Nat) : Int) == 0) = false := by simp [unhide HF]
    have FF := hide (show CEnd R w p c h (cutR h k e n) (.returned (.slice none 0 0)) V1 from by
      rw [unhide EQ]
      exact ⟨none, 0, 0, rfl, Part.nil _ _ _, z1, grown_trans (grown_of (_root_.Go.below_drewN (Below.refl _ _) _) _) g1⟩)
    clear z1 g1 FC EQ HF
    generalize ((failR e 3 : Nat) : Int) = ei at *
    go_wp2
    go_ret
    exact unhide FF
  · have s1 : ¬ ((h.length - k : Nat) : Int) < (n : Int) := by omega
    have s2 : decide (((h.length - k : Nat) : Int) < (n : Int)) = false := decide_eq_false s1
    have Z := hide z
    by_cases he : e = 0
    · subst he
      have hsl : ∀ u, (Instr.slice 27 (.slice p h.length c) (some (.int .i64 (k : Int))) (some (.int .i64 ((k : Int) + (n : Int)))) none).run Tryz.prog u = .ok (.slice (slp p k c) n (c - k)) u := fun u => by
        have := run_slice_lh8 p h.length c k (k + n) (by omega) (by have := z.hc; omega) u
        rw [Nat.add_sub_cancel_left] at this
        rw [← this, Int.natCast_add]
      have hadd : IntKind.i64.wrap ((k : Int) + (n : Int)) = (k : Int) + (n : Int) := by rw [IntKind.wrap_i64]; omega
      have FF := hide (show ∀ W, Below w.heap.size w W → ∀ j, CEnd R w p c h (cutR h k 0 n) (.returned (.slice (slp p k c) n (c - k))) ((W.setCell ⟨R, 1, none⟩ (.int .i64 ((k : Int) + (n : Int)))).drewN j) from fun W u j => by
        have eq : cutR h k 0 n = ((h.drop k).take n, k + n, 0) := by simp [cutR, cutE, hs]
        have z2 := ((z.later u).setK (k + n) (by omega)).later (_root_.Go.below_drewN (Below.refl _ _) j)
        rw [Int.natCast_add] at z2
        rw [eq]
        refine ⟨_, _, _, rfl, ⟨by dsimp only; rw [List.length_take, List.length_drop]; omega, by have := z.hc; omega, by have := z.hm; omega, (z2.by_.drop k c z.hc).take n, fun hq => slp_none hq z.hz, slp_of⟩, z2, ?_⟩
        have := grown_trans (grown_trans (grown_of u (some R)) (grown_set W R 1 (.int .i64 ((k : Int) + (n : Int))))) (grown_of (_root_.Go.below_drewN (Below.refl _ _) j) (some R))
        exact this)
      have CL := hide (show ∀ W, Below w.heap.size w W → W.cell? ⟨R, 1, none⟩ = some (.int .i64 (k : Int)) ∧ W.cell? ⟨R, 2, none⟩ = some (.int .i64 0) ∧ W.frozen? ⟨R, 1, none⟩ = false ∧ (W.setCell ⟨R, 1, none⟩ (.int .i64 ((k : Int) + (n : Int)))).cell? ⟨R, 0, none⟩ = some (.slice p h.length c) ∧ (W.setCell ⟨R, 1, none⟩ (.int .i64 ((k : Int) + (n : Int)))).cell? ⟨R, 1, none⟩ = some (.int .i64 ((k : Int) + (n : Int))) from fun W u => by
        have z1 := z.later u
        have z2 := z1.setK (k + n) (by omega)
        rw [Int.natCast_add] at z2
        have h1 := z2.c1
        rw [Int.natCast_add] at h1
        exact ⟨z1.c1, z1.c2, z1.froz 1, z2.c0, h1⟩)
      generalize hL : h.length = L at *
      generalize L - k = d at *
      clear z hs Z
      go_enter Tryz.func108, Tryz.ntmps108
      go_wp2_with fail
      go_quiet (fail)
      obtain ⟨b1, b2, b3, b4, b5⟩ := unhide CL _ (_root_.Go.below_drewN (Below.refl w.heap.size w) nq)
      have F1 := hide (unhide FF _ (_root_.Go.below_drewN (Below.refl w.heap.size w) nq))
      generalize slp p k c = q at *
      generalize w.drewN nq = W1 at *
      go_wp2_with fail
      go_quiet (fail)
      go_wp2
      go_ret
      exact unhide F1 _
    · have FF := hide (show ∀ j, CEnd R w p c h (cutR h k e n) (.returned (.slice none 0 0)) (w.drewN j) from fun j => by
        have eq : cutR h k e n = ([], k, e) := by simp [cutR, cutE, hs, he]
        rw [eq]
        exact ⟨none, 0, 0, rfl, Part.nil _ _ _, z.later (_root_.Go.below_drewN (Below.refl _ _) j), grown_of (_root_.Go.below_drewN (Below.refl _ _) j) _⟩)
      have c2 := z.c2
      have x1 : ¬ (e : Int) = 0 := by omega
      have x2 : ((e : Int) == 0) = false := by simp [he]
      have D2 := hide (show ∀ j, (w.drewN j).cell? ⟨R, 2, none⟩ = some (.int .i64 (e : Int)) from fun j => (z.later (_root_.Go.below_drewN (Below.refl _ _) j)).c2)
      generalize hL : h.length = L at *
      generalize L - k = d at *
      clear z hs he Z c2
      generalize (e : Int) = ei at *
      go_enter Tryz.func108, Tryz.ntmps108
      go_wp2_with fail
      go_quiet (fail)
      have d2 := unhide D2 nq
      have F1 := hide (unhide FF nq)
      generalize w.drewN nq = W1 at *
      go_wp2
      go_ret
      exact unhide F1
set_option maxHeartbeats 4000000 in
theorem send_calls (z : SR R w p c h k e) : Calls Tryz.prog 62 #[.pointer (some ⟨R, 0, none⟩)] w fun en w' => en = .returned (.tuple #[]) ∧ SR R w' p c h k (endR h k e) ∧ w.grownBy w' (some R) := by
  have c0 := z.c0
  have c1 := z.c1
  by_cases hk : k < h.length
  · have s1 : (k : Int) < (h.length : Int) := by omega
    have s2 : decide ((k : Int) < (h.length : Int)) = true := decide_eq_true s1
    have FC := hide (fun W (u : Below w.heap.size w W) => sfail_calls (z.later u) 4)
    have EQ := hide (show endR h k e = failR e 4 by unfold endR; rw [if_pos hk])
    generalize hL : h.length = L at *
    clear z hk
    go_enter Tryz.func62, Tryz.ntmps62
    go_wp2_with fail
    go_quiet (fail)
    go_wp2_with fail
    go_at_call 106
    refine (unhide FC _ (_root_.Go.below_drewN (Below.refl _ _) _)).mono ?_
    rintro en V1 ⟨rfl, z1, g1⟩
    have FF := hide (show SR R V1 p c h k (endR h k e) ∧ w.grownBy V1 (some R) from by
      rw [unhide EQ]
      exact ⟨z1, grown_trans (grown_of (_root_.Go.below_drewN (Below.refl _ _) _) _) g1⟩)
    clear z1 g1 FC EQ
    go_wp2
    go_end0
    exact ⟨rfl, unhide FF⟩
  · have s1 : ¬ (k : Int) < (h.length : Int) := by omega
    have s2 : decide ((k : Int) < (h.length : Int)) = false := decide_eq_false s1
    have FF := hide (show ∀ j, SR R (w.drewN j) p c h k (endR h k e) ∧ w.grownBy (w.drewN j) (some R) from fun j => by
      rw [show endR h k e = e by unfold endR; rw [if_neg hk]]
      exact ⟨z.later (_root_.Go.below_drewN (Below.refl _ _) j), grown_of (_root_.Go.below_drewN (Below.refl _ _) j) _⟩)
    generalize hL : h.length = L at *
    clear z hk
    go_enter Tryz.func62, Tryz.ntmps62
    go_wp2_with fail
    go_quiet (fail)
    go_wp2
    go_end0
    exact ⟨rfl, unhide FF _⟩
end
end Go.Proofs.YtagncghpfdjkmaaGreatDoor
end
