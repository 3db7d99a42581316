/- Plane: an answer's step find. -/
import Derived.Test.YtcmiappiocfbiaaGreatDoorB14
import Derived.Test.YtcmiappiocfbiaaGreatDoorB04
import Derived.Test.YtcmiappiocfbiaaGreatDoorB05
namespace Go.Proofs.YtcmiappiocfbiaaGreatDoor
open Go.ChangeShapes Go.WideShapes Go.ChangeAt Go.RowKit
set_option linter.unusedVariables false

theorem AB.same {A : Nat} {W V : World} {cs : Array Value} (hA : W.heap[A]? = some (.cells cs 60 (0, 0))) (h : AB A W cs V) : Below W.heap.size W V :=
  ⟨h.gr.os, h.gr.tape, h.gr.output, h.gr.size, fun k hk => by
    by_cases e : k = A
    · subst e; rw [h.row, hA]
    · exact h.gr.block k hk (fun e' => e (Option.some.inj e'))⟩
theorem AB.aside {A : Nat} {W0 W : World} {cs : Array Value} (h : AB A W0 cs W) {E : Nat} (hE : W0.heap.size ≤ E) (i : Nat) (v : Value) : AB A W0 cs (W.setCell ⟨E, i, none⟩ v) :=
  ⟨(heap_setCell_other W ⟨E, i, none⟩ A v (fun e => by have := h.lt; simp at e; omega)).trans h.row, ⟨h.gr.os, h.gr.tape, h.gr.output, by rw [show (W.setCell ⟨E, i, none⟩ v).heap.size = W.heap.size by simp [World.setCell]]; exact h.gr.size, fun k hk hne => (heap_setCell_other W ⟨E, i, none⟩ k v (fun e => by simp at e; omega)).trans (h.gr.block k hk hne)⟩, h.lt⟩
theorem froz_of {W : World} {E : Nat} {cs : Array Value} {t : Nat} (h : W.heap[E]? = some (.cells cs t (0, 0))) (i : Nat) : W.frozen? ⟨E, i, none⟩ = false := by simp [World.frozen?, h]
theorem step_newRt {w : World} {ops : Array Oper} {o : Oper} {a : Act} {K : Act → World → Prop} {Q : Exit → Act → World → Prop} {E0 : Prop} (hgd : o.guard = none) (ho : o.op = .alloc 65)
    (h : ∀ C w', w.heap.size = C → w'.heap[C]? = some (.cells #[.string ⟨#[]⟩, .string ⟨#[]⟩, .string ⟨#[]⟩] 65 (0, 0)) → Below w.heap.size w w' → K (a.put o.dst (.pointer (some ⟨C, 0, none⟩))) w') :
    if Region.wanted o (yielded ops a.tmps) = true then Oper.wp Tryz.prog o a w K Q else E0 := by
  have hw : Region.wanted o (yielded ops a.tmps) = true := by simp [Region.wanted, hgd]
  rw [if_pos hw]
  have h1 := h w.heap.size (w.alloc (.cells #[.string ⟨#[]⟩, .string ⟨#[]⟩, .string ⟨#[]⟩] 65)) rfl (heap_new w _) ((Below.refl _ _).alloc (Nat.le_refl _) _)
  unfold Oper.wp
  simp [execOp, ho, go_sem]
  exact h1
/-- How the step find ends. -/
def AFEnd (A : Nat) (W : World) (rs : List Rt) (ver : Int) (ra : Option Addr) (rn rc : Nat) (pa : Option Addr) (pn pc : Nat) (ba : Option Addr) (bn bc d : Nat) (m p q x : ByteArray) (fa : Option Addr) (fn fc : Nat) (e : Ending) (W' : World) : Prop := match bestN x p rs rn with
  | none => e = .returned (.int .i64 404) ∧ AB A W (ansC ver ra rn rc pa pn pc ba bn bc d m p q x fa fn fc 0 0 ⟨#[]⟩ ⟨#[]⟩) W'
  | some b => e = .returned (.int .i64 0) ∧ AB A W (ansC ver ra rn rc pa pn pc ba bn bc d m p q x fa fn fc 0 0 (rs.getD b rt0).l ⟨#[]⟩) W'
set_option maxRecDepth 20000 in
set_option maxHeartbeats 8000000 in
theorem afind_calls (A : Nat) (W : World) (rs : List Rt) (ver : Int) (ra : Option Addr) (rn rc : Nat) (pa : Option Addr) (pn pc : Nat) (ba : Option Addr) (bn bc d : Nat) (m p q x : ByteArray) (fa : Option Addr) (fn fc : Nat)
    (hA : W.heap[A]? = some (.cells (ansC ver ra rn rc pa pn pc ba bn bc d m p q x fa fn fc 0 0 ⟨#[]⟩ ⟨#[]⟩) 60 (0, 0)))
    (hr : RtsAt W ra rs) (hn : rs.length = rn) (hx : rn ≤ maxLen) :
    Calls Tryz.prog 19 #[.pointer (some ⟨A, 0, none⟩)] W fun e W' => AFEnd A W rs ver ra rn rc pa pn pc ba bn bc d m p q x fa fn fc e W' := by
  have R := hide ((AB.new hA).later (show Below W.heap.size W W.drew from (Below.refl _ _).drew))
  have FC := hide (show ∀ V, AB A W (ansC ver ra rn rc pa pn pc ba bn bc d m p q x fa fn fc 0 0 ⟨#[]⟩ ⟨#[]⟩) V → Calls Tryz.prog 26 #[.agg #[.int .i64 ver, .slice ra rn rc, .slice pa pn pc], .string x, .string p] V fun e w' => e = .returned (findV rs (bestN x p rs rn)) ∧ Below V.heap.size V w' from fun V hV => find_calls (hr.later (hV.same hA)) rn rc hn hx ver pa pn pc x p)
  cases hb : bestN x p rs rn with
  | none =>
    rw [hb] at FC
    have FE := hide (show ∀ W', AB A W (ansC ver ra rn rc pa pn pc ba bn bc d m p q x fa fn fc 0 0 ⟨#[]⟩ ⟨#[]⟩) W' → AFEnd A W rs ver ra rn rc pa pn pc ba bn bc d m p q x fa fn fc (.returned (.int .i64 404)) W' from fun W' h => by unfold AFEnd; rw [hb]; exact ⟨rfl, h⟩)
    unfold findV rtVal rt0 at FC
    clear hb hr hA
    go_enter Tryz.func19, Tryz.ntmps19
    go_wp2_with fail
    refine wp_region_held_drew (S := fun w' => w'.cell? ⟨A, 0, none⟩ = some (.int .i64 ver) ∧ w'.cell? ⟨A, 1, none⟩ = some (.slice ra rn rc) ∧ w'.cell? ⟨A, 2, none⟩ = some (.slice pa pn pc) ∧ w'.cell? ⟨A, 6, none⟩ = some (.string p) ∧ w'.cell? ⟨A, 8, none⟩ = some (.string x)) (by kernel_rfl) ?_ (fun hHeld => ?_)
    · try dsimp only
      exact ⟨(unhide R).cell 0 _ rfl, (unhide R).cell 1 _ rfl, (unhide R).cell 2 _ rfl, (unhide R).cell 6 _ rfl, (unhide R).cell 8 _ rfl⟩
    refine held_take 0 (oi := { dst := some 6, op := Op.move (Operand.tmp 0), type := 55, pos := "serve.go:59", after := #[], guard := none }) (v := ?_) (by kernel_rfl) rfl (by rfl) (by kernel_rfl) (by kernel_rfl) (fun _ _ _ h => h) ?_ (by assumption) ?_
    rotate_left
    · (intro w hSw; (try dsimp only at hSw); go_simp; try with_reducible rfl)
    try simp only [Act.put, List.setIfInBounds_toArray, List.set_cons_zero, List.set_cons_succ]
    refine held_take 1 (oi := { dst := some 7, op := Op.nilCheck (Operand.tmp 6), type := 0, pos := "serve.go:59", after := #[{ on := 0, ground := Ground.data }], guard := none }) (v := ?_) (by kernel_rfl) rfl (by rfl) (by kernel_rfl) (by kernel_rfl) (fun _ _ _ h => h) ?_ (by assumption) ?_
    rotate_left
    · (intro w hSw; (try dsimp only at hSw); go_simp; try with_reducible rfl)
    try simp only [Act.put, List.setIfInBounds_toArray, List.set_cons_zero, List.set_cons_succ]
    refine held_take 2 (oi := { dst := some 8, op := Op.fieldAddr 60 (Operand.tmp 7) 0, type := 0, pos := "serve.go:59", after := #[{ on := 1, ground := Ground.data }], guard := none }) (v := ?_) (by kernel_rfl) rfl (by rfl) (by kernel_rfl) (by kernel_rfl) (fun _ _ _ h => h) ?_ (by assumption) ?_
    rotate_left
    · (intro w hSw; (try dsimp only at hSw); go_simp; try with_reducible rfl)
    try simp only [Act.put, List.setIfInBounds_toArray, List.set_cons_zero, List.set_cons_succ]
    refine held_take 3 (oi := { dst := some 9, op := Op.load 28 (Operand.tmp 8), type := 28, pos := "serve.go:59", after := #[{ on := 2, ground := Ground.data }], guard := none }) (v := ?_) (by kernel_rfl) rfl (by rfl) (by kernel_rfl) (by kernel_rfl) (fun _ _ _ h => h) ?_ (by assumption) ?_
    rotate_left
    · (intro w hSw; (try dsimp only at hSw); go_simp; try with_reducible rfl)
    try simp only [Act.put, List.setIfInBounds_toArray, List.set_cons_zero, List.set_cons_succ]
    refine held_take 4 (oi := { dst := some 10, op := Op.move (Operand.tmp 0), type := 55, pos := "serve.go:59", after := #[], guard := none }) (v := ?_) (by kernel_rfl) rfl (by rfl) (by kernel_rfl) (by kernel_rfl) (fun _ _ _ h => h) ?_ (by assumption) ?_
    rotate_left
    · (intro w hSw; (try dsimp only at hSw); go_simp; try with_reducible rfl)
    try simp only [Act.put, List.setIfInBounds_toArray, List.set_cons_zero, List.set_cons_succ]
    refine held_take 5 (oi := { dst := some 11, op := Op.nilCheck (Operand.tmp 10), type := 0, pos := "serve.go:59", after := #[{ on := 4, ground := Ground.data }], guard := none }) (v := ?_) (by kernel_rfl) rfl (by rfl) (by kernel_rfl) (by kernel_rfl) (fun _ _ _ h => h) ?_ (by assumption) ?_
    rotate_left
    · (intro w hSw; (try dsimp only at hSw); go_simp; try with_reducible rfl)
    try simp only [Act.put, List.setIfInBounds_toArray, List.set_cons_zero, List.set_cons_succ]
    refine held_take 6 (oi := { dst := some 12, op := Op.fieldAddr 60 (Operand.tmp 11) 3, type := 0, pos := "serve.go:59", after := #[{ on := 5, ground := Ground.data }], guard := none }) (v := ?_) (by kernel_rfl) rfl (by rfl) (by kernel_rfl) (by kernel_rfl) (fun _ _ _ h => h) ?_ (by assumption) ?_
    rotate_left
    · (intro w hSw; (try dsimp only at hSw); go_simp; try with_reducible rfl)
    try simp only [Act.put, List.setIfInBounds_toArray, List.set_cons_zero, List.set_cons_succ]
    refine held_take 7 (oi := { dst := some 13, op := Op.fieldAddr 58 (Operand.tmp 12) 3, type := 0, pos := "serve.go:59", after := #[{ on := 6, ground := Ground.data }], guard := none }) (v := ?_) (by kernel_rfl) rfl (by rfl) (by kernel_rfl) (by kernel_rfl) (fun _ _ _ h => h) ?_ (by assumption) ?_
    rotate_left
    · (intro w hSw; (try dsimp only at hSw); go_simp; try with_reducible rfl)
    try simp only [Act.put, List.setIfInBounds_toArray, List.set_cons_zero, List.set_cons_succ]
    refine held_take 8 (oi := { dst := some 14, op := Op.load 9 (Operand.tmp 13), type := 9, pos := "serve.go:59", after := #[{ on := 7, ground := Ground.data }], guard := none }) (v := ?_) (by kernel_rfl) rfl (by rfl) (by kernel_rfl) (by kernel_rfl) (fun _ _ _ h => h) ?_ (by assumption) ?_
    rotate_left
    · (intro w hSw; (try dsimp only at hSw); go_simp; try with_reducible rfl)
    try simp only [Act.put, List.setIfInBounds_toArray, List.set_cons_zero, List.set_cons_succ]
    refine held_take 9 (oi := { dst := some 15, op := Op.move (Operand.tmp 0), type := 55, pos := "serve.go:59", after := #[], guard := none }) (v := ?_) (by kernel_rfl) rfl (by rfl) (by kernel_rfl) (by kernel_rfl) (fun _ _ _ h => h) ?_ (by assumption) ?_
    rotate_left
    · (intro w hSw; (try dsimp only at hSw); go_simp; try with_reducible rfl)
    try simp only [Act.put, List.setIfInBounds_toArray, List.set_cons_zero, List.set_cons_succ]
    refine held_take 10 (oi := { dst := some 16, op := Op.nilCheck (Operand.tmp 15), type := 0, pos := "serve.go:59", after := #[{ on := 9, ground := Ground.data }], guard := none }) (v := ?_) (by kernel_rfl) rfl (by rfl) (by kernel_rfl) (by kernel_rfl) (fun _ _ _ h => h) ?_ (by assumption) ?_
    rotate_left
    · (intro w hSw; (try dsimp only at hSw); go_simp; try with_reducible rfl)
    try simp only [Act.put, List.setIfInBounds_toArray, List.set_cons_zero, List.set_cons_succ]
    refine held_take 11 (oi := { dst := some 17, op := Op.fieldAddr 60 (Operand.tmp 16) 3, type := 0, pos := "serve.go:59", after := #[{ on := 10, ground := Ground.data }], guard := none }) (v := ?_) (by kernel_rfl) rfl (by rfl) (by kernel_rfl) (by kernel_rfl) (fun _ _ _ h => h) ?_ (by assumption) ?_
    rotate_left
    · (intro w hSw; (try dsimp only at hSw); go_simp; try with_reducible rfl)
    try simp only [Act.put, List.setIfInBounds_toArray, List.set_cons_zero, List.set_cons_succ]
    refine held_take 12 (oi := { dst := some 18, op := Op.fieldAddr 58 (Operand.tmp 17) 1, type := 0, pos := "serve.go:59", after := #[{ on := 11, ground := Ground.data }], guard := none }) (v := ?_) (by kernel_rfl) rfl (by rfl) (by kernel_rfl) (by kernel_rfl) (fun _ _ _ h => h) ?_ (by assumption) ?_
    rotate_left
    · (intro w hSw; (try dsimp only at hSw); go_simp; try with_reducible rfl)
    try simp only [Act.put, List.setIfInBounds_toArray, List.set_cons_zero, List.set_cons_succ]
    refine held_take 13 (oi := { dst := some 19, op := Op.load 9 (Operand.tmp 18), type := 9, pos := "serve.go:59", after := #[{ on := 12, ground := Ground.data }], guard := none }) (v := ?_) (by kernel_rfl) rfl (by rfl) (by kernel_rfl) (by kernel_rfl) (fun _ _ _ h => h) ?_ (by assumption) ?_
    rotate_left
    · (intro w hSw; (try dsimp only at hSw); go_simp; try with_reducible rfl)
    try simp only [Act.put, List.setIfInBounds_toArray, List.set_cons_zero, List.set_cons_succ]
    refine wpAnyH_ready (rs := [14, 18]) (by kernel_rfl) (by simp) ?_
    refine AllReadyH.cons (o := { dst := some 20, op := Op.call { callee := Callee.value (Operand.func 26), args := #[Operand.tmp 9, Operand.tmp 14, Operand.tmp 19], argTypes := #[28, 9, 9] }, type := 66, pos := "serve.go:59", after := #[{ on := 3, ground := Ground.data }, { on := 8, ground := Ground.data }, { on := 13, ground := Ground.data }], guard := none }) rfl (fun K hK => ?_) ?_
    · go_simp
      go_at_call 26
      refine (unhide FC _ (unhide R)).mono ?_
      rintro e V1 ⟨rfl, v1⟩
      have R := hide ((unhide R).later v1)
      first
        | (have hV : N3 = N3 := rfl
           clear hV
           have N3 := hide (later_block v1 (unhide N3)))
        | skip
      clear v1
      go_wp2_with fail
      refine hK.out _ _ ?_ (fun hHeld => ?_)
      · try dsimp only
        exact ⟨(unhide R).cell 0 _ rfl, (unhide R).cell 1 _ rfl, (unhide R).cell 2 _ rfl, (unhide R).cell 6 _ rfl, (unhide R).cell 8 _ rfl⟩
      clear hK K
      try simp only [Act.put, List.setIfInBounds_toArray, List.set_cons_zero, List.set_cons_succ]
      refine held_take 15 (oi := { dst := some 5, op := Op.move (Operand.tmp 20), type := 66, pos := "serve.go:59", after := #[{ on := 14, ground := Ground.data }], guard := none }) (v := ?_) (by kernel_rfl) rfl (by rfl) (by kernel_rfl) (by kernel_rfl) (fun _ _ _ h => h) ?_ (by assumption) ?_
      rotate_left
      · (intro w hSw; (try dsimp only at hSw); go_simp; try with_reducible rfl)
      try simp only [Act.put, List.setIfInBounds_toArray, List.set_cons_zero, List.set_cons_succ]
      refine held_take 16 (oi := { dst := some 21, op := Op.extract (Operand.tmp 5) 0, type := 65, pos := "serve.go:59", after := #[{ on := 15, ground := Ground.data }], guard := none }) (v := ?_) (by kernel_rfl) rfl (by rfl) (by kernel_rfl) (by kernel_rfl) (fun _ _ _ h => h) ?_ (by assumption) ?_
      rotate_left
      · (intro w hSw; (try dsimp only at hSw); go_simp; try with_reducible rfl)
      try simp only [Act.put, List.setIfInBounds_toArray, List.set_cons_zero, List.set_cons_succ]
      refine held_take 17 (oi := { dst := some 22, op := Op.extract (Operand.tmp 5) 1, type := 4, pos := "serve.go:59", after := #[{ on := 15, ground := Ground.data }, { on := 19, ground := Ground.gcOnly Departure.lateStores }], guard := none }) (v := ?_) (by kernel_rfl) rfl (by rfl) (by kernel_rfl) (by kernel_rfl) (fun _ _ _ h => h) ?_ (by assumption) ?_
      rotate_left
      · (intro w hSw; (try dsimp only at hSw); go_simp; try with_reducible rfl)
      try simp only [Act.put, List.setIfInBounds_toArray, List.set_cons_zero, List.set_cons_succ]
      refine wpAnyH_ready (rs := [18]) (by kernel_rfl) (by simp) ?_
      refine AllReadyH.cons (o := { dst := some 3, op := Op.alloc 65, type := 0, pos := "serve.go:59", after := #[], guard := none }) rfl (fun K hK => ?_) ?_
      · refine step_newRt rfl rfl ?_
        intro E U hE hEn hb
        have LE := hide (show W.heap.size ≤ E by rw [← hE]; exact (unhide R).gr.size)
        have N3 := hide hEn
        have R := hide ((unhide R).later hb)
        clear hE hEn hb
        refine hK.out _ _ ?_ (fun hHeld => ?_)
        · try dsimp only
          exact ⟨(unhide R).cell 0 _ rfl, (unhide R).cell 1 _ rfl, (unhide R).cell 2 _ rfl, (unhide R).cell 6 _ rfl, (unhide R).cell 8 _ rfl⟩
        clear hK K
        try simp only [Act.put, List.setIfInBounds_toArray, List.set_cons_zero, List.set_cons_succ]
        refine wpAnyH_ready (rs := [19]) (by kernel_rfl) (by simp) ?_
        refine AllReadyH.cons (o := { dst := none, op := Op.store 65 (Operand.tmp 3) (Operand.tmp 21), type := 0, pos := "serve.go:59", after := #[{ on := 18, ground := Ground.data }, { on := 16, ground := Ground.data }, { on := 14, ground := Ground.chain }, { on := 0, ground := Ground.phase }, { on := 1, ground := Ground.phase }, { on := 2, ground := Ground.phase }, { on := 3, ground := Ground.phase }, { on := 4, ground := Ground.phase }, { on := 5, ground := Ground.phase }, { on := 6, ground := Ground.phase }, { on := 7, ground := Ground.phase }, { on := 8, ground := Ground.phase }, { on := 9, ground := Ground.phase }, { on := 10, ground := Ground.phase }, { on := 11, ground := Ground.phase }, { on := 12, ground := Ground.phase }, { on := 13, ground := Ground.phase }, { on := 14, ground := Ground.phase }, { on := 15, ground := Ground.phase }, { on := 16, ground := Ground.phase }, { on := 17, ground := Ground.textOnly Departure.lateStores }, { on := 18, ground := Ground.phase }], guard := none }) rfl (fun K hK => ?_) ?_
        · have z0 := box_cell (unhide N3) 0 (.string ⟨#[]⟩) rfl
          have z1 := box_cell (unhide N3) 1 (.string ⟨#[]⟩) rfl
          have z2 := box_cell (unhide N3) 2 (.string ⟨#[]⟩) rfl
          have f0 := froz_of (unhide N3) 0
          have f1 := froz_of (unhide N3) 1
          have f2 := froz_of (unhide N3) 2
          go_simp
          clear z0 z1 z2 f0 f1 f2
          have N3 := hide (heap_setCell_same _ E 2 _ _ (.string ⟨#[]⟩) (heap_setCell_same _ E 1 _ _ (.string ⟨#[]⟩) (heap_setCell_same _ E 0 _ _ (.string ⟨#[]⟩) (unhide N3))))
          have R := hide ((((unhide R).aside (unhide LE) 0 (.string ⟨#[]⟩)).aside (unhide LE) 1 (.string ⟨#[]⟩)).aside (unhide LE) 2 (.string ⟨#[]⟩))
          refine hK.out _ _ ?_ (fun hHeld => ?_)
          · try dsimp only
            exact ⟨(unhide R).cell 0 _ rfl, (unhide R).cell 1 _ rfl, (unhide R).cell 2 _ rfl, (unhide R).cell 6 _ rfl, (unhide R).cell 8 _ rfl⟩
          clear hK K
          try simp only [Act.put, List.setIfInBounds_toArray, List.set_cons_zero, List.set_cons_succ]
          refine held_take 20 (oi := { dst := some 4, op := Op.assign (Operand.tmp 22), type := 4, pos := "serve.go:59", after := #[{ on := 17, ground := Ground.data }, { on := 19, ground := Ground.chain }, { on := 0, ground := Ground.phase }, { on := 1, ground := Ground.phase }, { on := 2, ground := Ground.phase }, { on := 3, ground := Ground.phase }, { on := 4, ground := Ground.phase }, { on := 5, ground := Ground.phase }, { on := 6, ground := Ground.phase }, { on := 7, ground := Ground.phase }, { on := 8, ground := Ground.phase }, { on := 9, ground := Ground.phase }, { on := 10, ground := Ground.phase }, { on := 11, ground := Ground.phase }, { on := 12, ground := Ground.phase }, { on := 13, ground := Ground.phase }, { on := 14, ground := Ground.phase }, { on := 15, ground := Ground.phase }, { on := 16, ground := Ground.phase }, { on := 17, ground := Ground.phase }, { on := 18, ground := Ground.phase }, { on := 19, ground := Ground.phase }], guard := none }) (v := ?_) (by kernel_rfl) rfl (by rfl) (by kernel_rfl) (by kernel_rfl) (fun _ _ _ h => h) ?_ (by assumption) ?_
          rotate_left
          · (intro w hSw; (try dsimp only at hSw); go_simp; try with_reducible rfl)
          try simp only [Act.put, List.setIfInBounds_toArray, List.set_cons_zero, List.set_cons_succ]
          refine wpAnyH_done (by kernel_rfl) ?_ _
          go_wp2_with fail
          go_ret
          exact unhide FE _ (unhide R)
        exact AllReadyH.nil
      exact AllReadyH.nil
    refine AllReadyH.cons (o := { dst := some 3, op := Op.alloc 65, type := 0, pos := "serve.go:59", after := #[], guard := none }) rfl (fun K hK => ?_) ?_
    · refine step_newRt rfl rfl ?_
      intro E U hE hEn hb
      have LE := hide (show W.heap.size ≤ E by rw [← hE]; exact (unhide R).gr.size)
      have N3 := hide hEn
      have R := hide ((unhide R).later hb)
      clear hE hEn hb
      refine hK.out _ _ ?_ (fun hHeld => ?_)
      · try dsimp only
        exact ⟨(unhide R).cell 0 _ rfl, (unhide R).cell 1 _ rfl, (unhide R).cell 2 _ rfl, (unhide R).cell 6 _ rfl, (unhide R).cell 8 _ rfl⟩
      clear hK K
      try simp only [Act.put, List.setIfInBounds_toArray, List.set_cons_zero, List.set_cons_succ]
      refine wpAnyH_ready (rs := [14]) (by kernel_rfl) (by simp) ?_
      refine AllReadyH.cons (o := { dst := some 20, op := Op.call { callee := Callee.value (Operand.func 26), args := #[Operand.tmp 9, Operand.tmp 14, Operand.tmp 19], argTypes := #[28, 9, 9] }, type := 66, pos := "serve.go:59", after := #[{ on := 3, ground := Ground.data }, { on := 8, ground := Ground.data }, { on := 13, ground := Ground.data }], guard := none }) rfl (fun K hK => ?_) ?_
      · go_simp
        go_at_call 26
        refine (unhide FC _ (unhide R)).mono ?_
        rintro e V1 ⟨rfl, v1⟩
        have R := hide ((unhide R).later v1)
        first
          | (have hV : N3 = N3 := rfl
             clear hV
             have N3 := hide (later_block v1 (unhide N3)))
          | skip
        clear v1
        go_wp2_with fail
        refine hK.out _ _ ?_ (fun hHeld => ?_)
        · try dsimp only
          exact ⟨(unhide R).cell 0 _ rfl, (unhide R).cell 1 _ rfl, (unhide R).cell 2 _ rfl, (unhide R).cell 6 _ rfl, (unhide R).cell 8 _ rfl⟩
        clear hK K
        try simp only [Act.put, List.setIfInBounds_toArray, List.set_cons_zero, List.set_cons_succ]
        refine held_take 15 (oi := { dst := some 5, op := Op.move (Operand.tmp 20), type := 66, pos := "serve.go:59", after := #[{ on := 14, ground := Ground.data }], guard := none }) (v := ?_) (by kernel_rfl) rfl (by rfl) (by kernel_rfl) (by kernel_rfl) (fun _ _ _ h => h) ?_ (by assumption) ?_
        rotate_left
        · (intro w hSw; (try dsimp only at hSw); go_simp; try with_reducible rfl)
        try simp only [Act.put, List.setIfInBounds_toArray, List.set_cons_zero, List.set_cons_succ]
        refine held_take 16 (oi := { dst := some 21, op := Op.extract (Operand.tmp 5) 0, type := 65, pos := "serve.go:59", after := #[{ on := 15, ground := Ground.data }], guard := none }) (v := ?_) (by kernel_rfl) rfl (by rfl) (by kernel_rfl) (by kernel_rfl) (fun _ _ _ h => h) ?_ (by assumption) ?_
        rotate_left
        · (intro w hSw; (try dsimp only at hSw); go_simp; try with_reducible rfl)
        try simp only [Act.put, List.setIfInBounds_toArray, List.set_cons_zero, List.set_cons_succ]
        refine held_take 17 (oi := { dst := some 22, op := Op.extract (Operand.tmp 5) 1, type := 4, pos := "serve.go:59", after := #[{ on := 15, ground := Ground.data }, { on := 19, ground := Ground.gcOnly Departure.lateStores }], guard := none }) (v := ?_) (by kernel_rfl) rfl (by rfl) (by kernel_rfl) (by kernel_rfl) (fun _ _ _ h => h) ?_ (by assumption) ?_
        rotate_left
        · (intro w hSw; (try dsimp only at hSw); go_simp; try with_reducible rfl)
        try simp only [Act.put, List.setIfInBounds_toArray, List.set_cons_zero, List.set_cons_succ]
        refine wpAnyH_ready (rs := [19]) (by kernel_rfl) (by simp) ?_
        refine AllReadyH.cons (o := { dst := none, op := Op.store 65 (Operand.tmp 3) (Operand.tmp 21), type := 0, pos := "serve.go:59", after := #[{ on := 18, ground := Ground.data }, { on := 16, ground := Ground.data }, { on := 14, ground := Ground.chain }, { on := 0, ground := Ground.phase }, { on := 1, ground := Ground.phase }, { on := 2, ground := Ground.phase }, { on := 3, ground := Ground.phase }, { on := 4, ground := Ground.phase }, { on := 5, ground := Ground.phase }, { on := 6, ground := Ground.phase }, { on := 7, ground := Ground.phase }, { on := 8, ground := Ground.phase }, { on := 9, ground := Ground.phase }, { on := 10, ground := Ground.phase }, { on := 11, ground := Ground.phase }, { on := 12, ground := Ground.phase }, { on := 13, ground := Ground.phase }, { on := 14, ground := Ground.phase }, { on := 15, ground := Ground.phase }, { on := 16, ground := Ground.phase }, { on := 17, ground := Ground.textOnly Departure.lateStores }, { on := 18, ground := Ground.phase }], guard := none }) rfl (fun K hK => ?_) ?_
        · have z0 := box_cell (unhide N3) 0 (.string ⟨#[]⟩) rfl
          have z1 := box_cell (unhide N3) 1 (.string ⟨#[]⟩) rfl
          have z2 := box_cell (unhide N3) 2 (.string ⟨#[]⟩) rfl
          have f0 := froz_of (unhide N3) 0
          have f1 := froz_of (unhide N3) 1
          have f2 := froz_of (unhide N3) 2
          go_simp
          clear z0 z1 z2 f0 f1 f2
          have N3 := hide (heap_setCell_same _ E 2 _ _ (.string ⟨#[]⟩) (heap_setCell_same _ E 1 _ _ (.string ⟨#[]⟩) (heap_setCell_same _ E 0 _ _ (.string ⟨#[]⟩) (unhide N3))))
          have R := hide ((((unhide R).aside (unhide LE) 0 (.string ⟨#[]⟩)).aside (unhide LE) 1 (.string ⟨#[]⟩)).aside (unhide LE) 2 (.string ⟨#[]⟩))
          refine hK.out _ _ ?_ (fun hHeld => ?_)
          · try dsimp only
            exact ⟨(unhide R).cell 0 _ rfl, (unhide R).cell 1 _ rfl, (unhide R).cell 2 _ rfl, (unhide R).cell 6 _ rfl, (unhide R).cell 8 _ rfl⟩
          clear hK K
          try simp only [Act.put, List.setIfInBounds_toArray, List.set_cons_zero, List.set_cons_succ]
          refine held_take 20 (oi := { dst := some 4, op := Op.assign (Operand.tmp 22), type := 4, pos := "serve.go:59", after := #[{ on := 17, ground := Ground.data }, { on := 19, ground := Ground.chain }, { on := 0, ground := Ground.phase }, { on := 1, ground := Ground.phase }, { on := 2, ground := Ground.phase }, { on := 3, ground := Ground.phase }, { on := 4, ground := Ground.phase }, { on := 5, ground := Ground.phase }, { on := 6, ground := Ground.phase }, { on := 7, ground := Ground.phase }, { on := 8, ground := Ground.phase }, { on := 9, ground := Ground.phase }, { on := 10, ground := Ground.phase }, { on := 11, ground := Ground.phase }, { on := 12, ground := Ground.phase }, { on := 13, ground := Ground.phase }, { on := 14, ground := Ground.phase }, { on := 15, ground := Ground.phase }, { on := 16, ground := Ground.phase }, { on := 17, ground := Ground.phase }, { on := 18, ground := Ground.phase }, { on := 19, ground := Ground.phase }], guard := none }) (v := ?_) (by kernel_rfl) rfl (by rfl) (by kernel_rfl) (by kernel_rfl) (fun _ _ _ h => h) ?_ (by assumption) ?_
          rotate_left
          · (intro w hSw; (try dsimp only at hSw); go_simp; try with_reducible rfl)
          try simp only [Act.put, List.setIfInBounds_toArray, List.set_cons_zero, List.set_cons_succ]
          refine wpAnyH_done (by kernel_rfl) ?_ _
          go_wp2_with fail
          go_ret
          exact unhide FE _ (unhide R)
        exact AllReadyH.nil
      exact AllReadyH.nil
    exact AllReadyH.nil
  | some b =>
    obtain ⟨⟨rh, rp, rl⟩, hrt⟩ : ∃ r, r = rs.getD b rt0 := ⟨_, rfl⟩
    rw [hb] at FC
    have FC := hide (show ∀ V, AB A W (ansC ver ra rn rc pa pn pc ba bn bc d m p q x fa fn fc 0 0 ⟨#[]⟩ ⟨#[]⟩) V → Calls Tryz.prog 26 #[.agg #[.int .i64 ver, .slice ra rn rc, .slice pa pn pc], .string x, .string p] V fun e w' => e = .returned (.tuple #[.agg #[.string rh, .string rp, .string rl], .bool true]) ∧ Below V.heap.size V w' from fun V hV => (unhide FC V hV).mono fun e w' he => by
      obtain ⟨h1, h2⟩ := he
      refine ⟨?_, h2⟩
      rw [h1]
      unfold findV
      dsimp only
      rw [← hrt]
      rfl)
    have FE := hide (show ∀ W', AB A W (ansC ver ra rn rc pa pn pc ba bn bc d m p q x fa fn fc 0 0 rl ⟨#[]⟩) W' → AFEnd A W rs ver ra rn rc pa pn pc ba bn bc d m p q x fa fn fc (.returned (.int .i64 0)) W' from fun W' h => by unfold AFEnd; rw [hb]; dsimp only; rw [← hrt]; exact ⟨rfl, h⟩)
    clear hb hr hA hrt
    go_enter Tryz.func19, Tryz.ntmps19
    go_wp2_with fail
    refine wp_region_held_drew (S := fun w' => w'.cell? ⟨A, 0, none⟩ = some (.int .i64 ver) ∧ w'.cell? ⟨A, 1, none⟩ = some (.slice ra rn rc) ∧ w'.cell? ⟨A, 2, none⟩ = some (.slice pa pn pc) ∧ w'.cell? ⟨A, 6, none⟩ = some (.string p) ∧ w'.cell? ⟨A, 8, none⟩ = some (.string x)) (by kernel_rfl) ?_ (fun hHeld => ?_)
    · try dsimp only
      exact ⟨(unhide R).cell 0 _ rfl, (unhide R).cell 1 _ rfl, (unhide R).cell 2 _ rfl, (unhide R).cell 6 _ rfl, (unhide R).cell 8 _ rfl⟩
    refine held_take 0 (oi := { dst := some 6, op := Op.move (Operand.tmp 0), type := 55, pos := "serve.go:59", after := #[], guard := none }) (v := ?_) (by kernel_rfl) rfl (by rfl) (by kernel_rfl) (by kernel_rfl) (fun _ _ _ h => h) ?_ (by assumption) ?_
    rotate_left
    · (intro w hSw; (try dsimp only at hSw); go_simp; try with_reducible rfl)
    try simp only [Act.put, List.setIfInBounds_toArray, List.set_cons_zero, List.set_cons_succ]
    refine held_take 1 (oi := { dst := some 7, op := Op.nilCheck (Operand.tmp 6), type := 0, pos := "serve.go:59", after := #[{ on := 0, ground := Ground.data }], guard := none }) (v := ?_) (by kernel_rfl) rfl (by rfl) (by kernel_rfl) (by kernel_rfl) (fun _ _ _ h => h) ?_ (by assumption) ?_
    rotate_left
    · (intro w hSw; (try dsimp only at hSw); go_simp; try with_reducible rfl)
    try simp only [Act.put, List.setIfInBounds_toArray, List.set_cons_zero, List.set_cons_succ]
    refine held_take 2 (oi := { dst := some 8, op := Op.fieldAddr 60 (Operand.tmp 7) 0, type := 0, pos := "serve.go:59", after := #[{ on := 1, ground := Ground.data }], guard := none }) (v := ?_) (by kernel_rfl) rfl (by rfl) (by kernel_rfl) (by kernel_rfl) (fun _ _ _ h => h) ?_ (by assumption) ?_
    rotate_left
    · (intro w hSw; (try dsimp only at hSw); go_simp; try with_reducible rfl)
    try simp only [Act.put, List.setIfInBounds_toArray, List.set_cons_zero, List.set_cons_succ]
    refine held_take 3 (oi := { dst := some 9, op := Op.load 28 (Operand.tmp 8), type := 28, pos := "serve.go:59", after := #[{ on := 2, ground := Ground.data }], guard := none }) (v := ?_) (by kernel_rfl) rfl (by rfl) (by kernel_rfl) (by kernel_rfl) (fun _ _ _ h => h) ?_ (by assumption) ?_
    rotate_left
    · (intro w hSw; (try dsimp only at hSw); go_simp; try with_reducible rfl)
    try simp only [Act.put, List.setIfInBounds_toArray, List.set_cons_zero, List.set_cons_succ]
    refine held_take 4 (oi := { dst := some 10, op := Op.move (Operand.tmp 0), type := 55, pos := "serve.go:59", after := #[], guard := none }) (v := ?_) (by kernel_rfl) rfl (by rfl) (by kernel_rfl) (by kernel_rfl) (fun _ _ _ h => h) ?_ (by assumption) ?_
    rotate_left
    · (intro w hSw; (try dsimp only at hSw); go_simp; try with_reducible rfl)
    try simp only [Act.put, List.setIfInBounds_toArray, List.set_cons_zero, List.set_cons_succ]
    refine held_take 5 (oi := { dst := some 11, op := Op.nilCheck (Operand.tmp 10), type := 0, pos := "serve.go:59", after := #[{ on := 4, ground := Ground.data }], guard := none }) (v := ?_) (by kernel_rfl) rfl (by rfl) (by kernel_rfl) (by kernel_rfl) (fun _ _ _ h => h) ?_ (by assumption) ?_
    rotate_left
    · (intro w hSw; (try dsimp only at hSw); go_simp; try with_reducible rfl)
    try simp only [Act.put, List.setIfInBounds_toArray, List.set_cons_zero, List.set_cons_succ]
    refine held_take 6 (oi := { dst := some 12, op := Op.fieldAddr 60 (Operand.tmp 11) 3, type := 0, pos := "serve.go:59", after := #[{ on := 5, ground := Ground.data }], guard := none }) (v := ?_) (by kernel_rfl) rfl (by rfl) (by kernel_rfl) (by kernel_rfl) (fun _ _ _ h => h) ?_ (by assumption) ?_
    rotate_left
    · (intro w hSw; (try dsimp only at hSw); go_simp; try with_reducible rfl)
    try simp only [Act.put, List.setIfInBounds_toArray, List.set_cons_zero, List.set_cons_succ]
    refine held_take 7 (oi := { dst := some 13, op := Op.fieldAddr 58 (Operand.tmp 12) 3, type := 0, pos := "serve.go:59", after := #[{ on := 6, ground := Ground.data }], guard := none }) (v := ?_) (by kernel_rfl) rfl (by rfl) (by kernel_rfl) (by kernel_rfl) (fun _ _ _ h => h) ?_ (by assumption) ?_
    rotate_left
    · (intro w hSw; (try dsimp only at hSw); go_simp; try with_reducible rfl)
    try simp only [Act.put, List.setIfInBounds_toArray, List.set_cons_zero, List.set_cons_succ]
    refine held_take 8 (oi := { dst := some 14, op := Op.load 9 (Operand.tmp 13), type := 9, pos := "serve.go:59", after := #[{ on := 7, ground := Ground.data }], guard := none }) (v := ?_) (by kernel_rfl) rfl (by rfl) (by kernel_rfl) (by kernel_rfl) (fun _ _ _ h => h) ?_ (by assumption) ?_
    rotate_left
    · (intro w hSw; (try dsimp only at hSw); go_simp; try with_reducible rfl)
    try simp only [Act.put, List.setIfInBounds_toArray, List.set_cons_zero, List.set_cons_succ]
    refine held_take 9 (oi := { dst := some 15, op := Op.move (Operand.tmp 0), type := 55, pos := "serve.go:59", after := #[], guard := none }) (v := ?_) (by kernel_rfl) rfl (by rfl) (by kernel_rfl) (by kernel_rfl) (fun _ _ _ h => h) ?_ (by assumption) ?_
    rotate_left
    · (intro w hSw; (try dsimp only at hSw); go_simp; try with_reducible rfl)
    try simp only [Act.put, List.setIfInBounds_toArray, List.set_cons_zero, List.set_cons_succ]
    refine held_take 10 (oi := { dst := some 16, op := Op.nilCheck (Operand.tmp 15), type := 0, pos := "serve.go:59", after := #[{ on := 9, ground := Ground.data }], guard := none }) (v := ?_) (by kernel_rfl) rfl (by rfl) (by kernel_rfl) (by kernel_rfl) (fun _ _ _ h => h) ?_ (by assumption) ?_
    rotate_left
    · (intro w hSw; (try dsimp only at hSw); go_simp; try with_reducible rfl)
    try simp only [Act.put, List.setIfInBounds_toArray, List.set_cons_zero, List.set_cons_succ]
    refine held_take 11 (oi := { dst := some 17, op := Op.fieldAddr 60 (Operand.tmp 16) 3, type := 0, pos := "serve.go:59", after := #[{ on := 10, ground := Ground.data }], guard := none }) (v := ?_) (by kernel_rfl) rfl (by rfl) (by kernel_rfl) (by kernel_rfl) (fun _ _ _ h => h) ?_ (by assumption) ?_
    rotate_left
    · (intro w hSw; (try dsimp only at hSw); go_simp; try with_reducible rfl)
    try simp only [Act.put, List.setIfInBounds_toArray, List.set_cons_zero, List.set_cons_succ]
    refine held_take 12 (oi := { dst := some 18, op := Op.fieldAddr 58 (Operand.tmp 17) 1, type := 0, pos := "serve.go:59", after := #[{ on := 11, ground := Ground.data }], guard := none }) (v := ?_) (by kernel_rfl) rfl (by rfl) (by kernel_rfl) (by kernel_rfl) (fun _ _ _ h => h) ?_ (by assumption) ?_
    rotate_left
    · (intro w hSw; (try dsimp only at hSw); go_simp; try with_reducible rfl)
    try simp only [Act.put, List.setIfInBounds_toArray, List.set_cons_zero, List.set_cons_succ]
    refine held_take 13 (oi := { dst := some 19, op := Op.load 9 (Operand.tmp 18), type := 9, pos := "serve.go:59", after := #[{ on := 12, ground := Ground.data }], guard := none }) (v := ?_) (by kernel_rfl) rfl (by rfl) (by kernel_rfl) (by kernel_rfl) (fun _ _ _ h => h) ?_ (by assumption) ?_
    rotate_left
    · (intro w hSw; (try dsimp only at hSw); go_simp; try with_reducible rfl)
    try simp only [Act.put, List.setIfInBounds_toArray, List.set_cons_zero, List.set_cons_succ]
    refine wpAnyH_ready (rs := [14, 18]) (by kernel_rfl) (by simp) ?_
    refine AllReadyH.cons (o := { dst := some 20, op := Op.call { callee := Callee.value (Operand.func 26), args := #[Operand.tmp 9, Operand.tmp 14, Operand.tmp 19], argTypes := #[28, 9, 9] }, type := 66, pos := "serve.go:59", after := #[{ on := 3, ground := Ground.data }, { on := 8, ground := Ground.data }, { on := 13, ground := Ground.data }], guard := none }) rfl (fun K hK => ?_) ?_
    · go_simp
      go_at_call 26
      refine (unhide FC _ (unhide R)).mono ?_
      rintro e V1 ⟨rfl, v1⟩
      have R := hide ((unhide R).later v1)
      first
        | (have hV : N3 = N3 := rfl
           clear hV
           have N3 := hide (later_block v1 (unhide N3)))
        | skip
      clear v1
      go_wp2_with fail
      refine hK.out _ _ ?_ (fun hHeld => ?_)
      · try dsimp only
        exact ⟨(unhide R).cell 0 _ rfl, (unhide R).cell 1 _ rfl, (unhide R).cell 2 _ rfl, (unhide R).cell 6 _ rfl, (unhide R).cell 8 _ rfl⟩
      clear hK K
      try simp only [Act.put, List.setIfInBounds_toArray, List.set_cons_zero, List.set_cons_succ]
      refine held_take 15 (oi := { dst := some 5, op := Op.move (Operand.tmp 20), type := 66, pos := "serve.go:59", after := #[{ on := 14, ground := Ground.data }], guard := none }) (v := ?_) (by kernel_rfl) rfl (by rfl) (by kernel_rfl) (by kernel_rfl) (fun _ _ _ h => h) ?_ (by assumption) ?_
      rotate_left
      · (intro w hSw; (try dsimp only at hSw); go_simp; try with_reducible rfl)
      try simp only [Act.put, List.setIfInBounds_toArray, List.set_cons_zero, List.set_cons_succ]
      refine held_take 16 (oi := { dst := some 21, op := Op.extract (Operand.tmp 5) 0, type := 65, pos := "serve.go:59", after := #[{ on := 15, ground := Ground.data }], guard := none }) (v := ?_) (by kernel_rfl) rfl (by rfl) (by kernel_rfl) (by kernel_rfl) (fun _ _ _ h => h) ?_ (by assumption) ?_
      rotate_left
      · (intro w hSw; (try dsimp only at hSw); go_simp; try with_reducible rfl)
      try simp only [Act.put, List.setIfInBounds_toArray, List.set_cons_zero, List.set_cons_succ]
      refine held_take 17 (oi := { dst := some 22, op := Op.extract (Operand.tmp 5) 1, type := 4, pos := "serve.go:59", after := #[{ on := 15, ground := Ground.data }, { on := 19, ground := Ground.gcOnly Departure.lateStores }], guard := none }) (v := ?_) (by kernel_rfl) rfl (by rfl) (by kernel_rfl) (by kernel_rfl) (fun _ _ _ h => h) ?_ (by assumption) ?_
      rotate_left
      · (intro w hSw; (try dsimp only at hSw); go_simp; try with_reducible rfl)
      try simp only [Act.put, List.setIfInBounds_toArray, List.set_cons_zero, List.set_cons_succ]
      refine wpAnyH_ready (rs := [18]) (by kernel_rfl) (by simp) ?_
      refine AllReadyH.cons (o := { dst := some 3, op := Op.alloc 65, type := 0, pos := "serve.go:59", after := #[], guard := none }) rfl (fun K hK => ?_) ?_
      · refine step_newRt rfl rfl ?_
        intro E U hE hEn hb
        have LE := hide (show W.heap.size ≤ E by rw [← hE]; exact (unhide R).gr.size)
        have N3 := hide hEn
        have R := hide ((unhide R).later hb)
        clear hE hEn hb
        refine hK.out _ _ ?_ (fun hHeld => ?_)
        · try dsimp only
          exact ⟨(unhide R).cell 0 _ rfl, (unhide R).cell 1 _ rfl, (unhide R).cell 2 _ rfl, (unhide R).cell 6 _ rfl, (unhide R).cell 8 _ rfl⟩
        clear hK K
        try simp only [Act.put, List.setIfInBounds_toArray, List.set_cons_zero, List.set_cons_succ]
        refine wpAnyH_ready (rs := [19]) (by kernel_rfl) (by simp) ?_
        refine AllReadyH.cons (o := { dst := none, op := Op.store 65 (Operand.tmp 3) (Operand.tmp 21), type := 0, pos := "serve.go:59", after := #[{ on := 18, ground := Ground.data }, { on := 16, ground := Ground.data }, { on := 14, ground := Ground.chain }, { on := 0, ground := Ground.phase }, { on := 1, ground := Ground.phase }, { on := 2, ground := Ground.phase }, { on := 3, ground := Ground.phase }, { on := 4, ground := Ground.phase }, { on := 5, ground := Ground.phase }, { on := 6, ground := Ground.phase }, { on := 7, ground := Ground.phase }, { on := 8, ground := Ground.phase }, { on := 9, ground := Ground.phase }, { on := 10, ground := Ground.phase }, { on := 11, ground := Ground.phase }, { on := 12, ground := Ground.phase }, { on := 13, ground := Ground.phase }, { on := 14, ground := Ground.phase }, { on := 15, ground := Ground.phase }, { on := 16, ground := Ground.phase }, { on := 17, ground := Ground.textOnly Departure.lateStores }, { on := 18, ground := Ground.phase }], guard := none }) rfl (fun K hK => ?_) ?_
        · have z0 := box_cell (unhide N3) 0 (.string ⟨#[]⟩) rfl
          have z1 := box_cell (unhide N3) 1 (.string ⟨#[]⟩) rfl
          have z2 := box_cell (unhide N3) 2 (.string ⟨#[]⟩) rfl
          have f0 := froz_of (unhide N3) 0
          have f1 := froz_of (unhide N3) 1
          have f2 := froz_of (unhide N3) 2
          go_simp
          clear z0 z1 z2 f0 f1 f2
          have N3 := hide (heap_setCell_same _ E 2 _ _ (.string rl) (heap_setCell_same _ E 1 _ _ (.string rp) (heap_setCell_same _ E 0 _ _ (.string rh) (unhide N3))))
          have R := hide ((((unhide R).aside (unhide LE) 0 (.string rh)).aside (unhide LE) 1 (.string rp)).aside (unhide LE) 2 (.string rl))
          refine hK.out _ _ ?_ (fun hHeld => ?_)
          · try dsimp only
            exact ⟨(unhide R).cell 0 _ rfl, (unhide R).cell 1 _ rfl, (unhide R).cell 2 _ rfl, (unhide R).cell 6 _ rfl, (unhide R).cell 8 _ rfl⟩
          clear hK K
          try simp only [Act.put, List.setIfInBounds_toArray, List.set_cons_zero, List.set_cons_succ]
          refine held_take 20 (oi := { dst := some 4, op := Op.assign (Operand.tmp 22), type := 4, pos := "serve.go:59", after := #[{ on := 17, ground := Ground.data }, { on := 19, ground := Ground.chain }, { on := 0, ground := Ground.phase }, { on := 1, ground := Ground.phase }, { on := 2, ground := Ground.phase }, { on := 3, ground := Ground.phase }, { on := 4, ground := Ground.phase }, { on := 5, ground := Ground.phase }, { on := 6, ground := Ground.phase }, { on := 7, ground := Ground.phase }, { on := 8, ground := Ground.phase }, { on := 9, ground := Ground.phase }, { on := 10, ground := Ground.phase }, { on := 11, ground := Ground.phase }, { on := 12, ground := Ground.phase }, { on := 13, ground := Ground.phase }, { on := 14, ground := Ground.phase }, { on := 15, ground := Ground.phase }, { on := 16, ground := Ground.phase }, { on := 17, ground := Ground.phase }, { on := 18, ground := Ground.phase }, { on := 19, ground := Ground.phase }], guard := none }) (v := ?_) (by kernel_rfl) rfl (by rfl) (by kernel_rfl) (by kernel_rfl) (fun _ _ _ h => h) ?_ (by assumption) ?_
          rotate_left
          · (intro w hSw; (try dsimp only at hSw); go_simp; try with_reducible rfl)
          try simp only [Act.put, List.setIfInBounds_toArray, List.set_cons_zero, List.set_cons_succ]
          refine wpAnyH_done (by kernel_rfl) ?_ _
          have y2 := box_cell (unhide N3) 2 (.string rl) rfl
          have z12 := (unhide R).cell 12 (.string ⟨#[]⟩) rfl
          have f12 := (unhide R).froz 12
          have R := hide ((unhide R).set 12 (.string rl))
          go_wp2_with fail
          go_ret
          exact unhide FE _ (unhide R)
        exact AllReadyH.nil
      exact AllReadyH.nil
    refine AllReadyH.cons (o := { dst := some 3, op := Op.alloc 65, type := 0, pos := "serve.go:59", after := #[], guard := none }) rfl (fun K hK => ?_) ?_
    · refine step_newRt rfl rfl ?_
      intro E U hE hEn hb
      have LE := hide (show W.heap.size ≤ E by rw [← hE]; exact (unhide R).gr.size)
      have N3 := hide hEn
      have R := hide ((unhide R).later hb)
      clear hE hEn hb
      refine hK.out _ _ ?_ (fun hHeld => ?_)
      · try dsimp only
        exact ⟨(unhide R).cell 0 _ rfl, (unhide R).cell 1 _ rfl, (unhide R).cell 2 _ rfl, (unhide R).cell 6 _ rfl, (unhide R).cell 8 _ rfl⟩
      clear hK K
      try simp only [Act.put, List.setIfInBounds_toArray, List.set_cons_zero, List.set_cons_succ]
      refine wpAnyH_ready (rs := [14]) (by kernel_rfl) (by simp) ?_
      refine AllReadyH.cons (o := { dst := some 20, op := Op.call { callee := Callee.value (Operand.func 26), args := #[Operand.tmp 9, Operand.tmp 14, Operand.tmp 19], argTypes := #[28, 9, 9] }, type := 66, pos := "serve.go:59", after := #[{ on := 3, ground := Ground.data }, { on := 8, ground := Ground.data }, { on := 13, ground := Ground.data }], guard := none }) rfl (fun K hK => ?_) ?_
      · go_simp
        go_at_call 26
        refine (unhide FC _ (unhide R)).mono ?_
        rintro e V1 ⟨rfl, v1⟩
        have R := hide ((unhide R).later v1)
        first
          | (have hV : N3 = N3 := rfl
             clear hV
             have N3 := hide (later_block v1 (unhide N3)))
          | skip
        clear v1
        go_wp2_with fail
        refine hK.out _ _ ?_ (fun hHeld => ?_)
        · try dsimp only
          exact ⟨(unhide R).cell 0 _ rfl, (unhide R).cell 1 _ rfl, (unhide R).cell 2 _ rfl, (unhide R).cell 6 _ rfl, (unhide R).cell 8 _ rfl⟩
        clear hK K
        try simp only [Act.put, List.setIfInBounds_toArray, List.set_cons_zero, List.set_cons_succ]
        refine held_take 15 (oi := { dst := some 5, op := Op.move (Operand.tmp 20), type := 66, pos := "serve.go:59", after := #[{ on := 14, ground := Ground.data }], guard := none }) (v := ?_) (by kernel_rfl) rfl (by rfl) (by kernel_rfl) (by kernel_rfl) (fun _ _ _ h => h) ?_ (by assumption) ?_
        rotate_left
        · (intro w hSw; (try dsimp only at hSw); go_simp; try with_reducible rfl)
        try simp only [Act.put, List.setIfInBounds_toArray, List.set_cons_zero, List.set_cons_succ]
        refine held_take 16 (oi := { dst := some 21, op := Op.extract (Operand.tmp 5) 0, type := 65, pos := "serve.go:59", after := #[{ on := 15, ground := Ground.data }], guard := none }) (v := ?_) (by kernel_rfl) rfl (by rfl) (by kernel_rfl) (by kernel_rfl) (fun _ _ _ h => h) ?_ (by assumption) ?_
        rotate_left
        · (intro w hSw; (try dsimp only at hSw); go_simp; try with_reducible rfl)
        try simp only [Act.put, List.setIfInBounds_toArray, List.set_cons_zero, List.set_cons_succ]
        refine held_take 17 (oi := { dst := some 22, op := Op.extract (Operand.tmp 5) 1, type := 4, pos := "serve.go:59", after := #[{ on := 15, ground := Ground.data }, { on := 19, ground := Ground.gcOnly Departure.lateStores }], guard := none }) (v := ?_) (by kernel_rfl) rfl (by rfl) (by kernel_rfl) (by kernel_rfl) (fun _ _ _ h => h) ?_ (by assumption) ?_
        rotate_left
        · (intro w hSw; (try dsimp only at hSw); go_simp; try with_reducible rfl)
        try simp only [Act.put, List.setIfInBounds_toArray, List.set_cons_zero, List.set_cons_succ]
        refine wpAnyH_ready (rs := [19]) (by kernel_rfl) (by simp) ?_
        refine AllReadyH.cons (o := { dst := none, op := Op.store 65 (Operand.tmp 3) (Operand.tmp 21), type := 0, pos := "serve.go:59", after := #[{ on := 18, ground := Ground.data }, { on := 16, ground := Ground.data }, { on := 14, ground := Ground.chain }, { on := 0, ground := Ground.phase }, { on := 1, ground := Ground.phase }, { on := 2, ground := Ground.phase }, { on := 3, ground := Ground.phase }, { on := 4, ground := Ground.phase }, { on := 5, ground := Ground.phase }, { on := 6, ground := Ground.phase }, { on := 7, ground := Ground.phase }, { on := 8, ground := Ground.phase }, { on := 9, ground := Ground.phase }, { on := 10, ground := Ground.phase }, { on := 11, ground := Ground.phase }, { on := 12, ground := Ground.phase }, { on := 13, ground := Ground.phase }, { on := 14, ground := Ground.phase }, { on := 15, ground := Ground.phase }, { on := 16, ground := Ground.phase }, { on := 17, ground := Ground.textOnly Departure.lateStores }, { on := 18, ground := Ground.phase }], guard := none }) rfl (fun K hK => ?_) ?_
        · have z0 := box_cell (unhide N3) 0 (.string ⟨#[]⟩) rfl
          have z1 := box_cell (unhide N3) 1 (.string ⟨#[]⟩) rfl
          have z2 := box_cell (unhide N3) 2 (.string ⟨#[]⟩) rfl
          have f0 := froz_of (unhide N3) 0
          have f1 := froz_of (unhide N3) 1
          have f2 := froz_of (unhide N3) 2
          go_simp
          clear z0 z1 z2 f0 f1 f2
          have N3 := hide (heap_setCell_same _ E 2 _ _ (.string rl) (heap_setCell_same _ E 1 _ _ (.string rp) (heap_setCell_same _ E 0 _ _ (.string rh) (unhide N3))))
          have R := hide ((((unhide R).aside (unhide LE) 0 (.string rh)).aside (unhide LE) 1 (.string rp)).aside (unhide LE) 2 (.string rl))
          refine hK.out _ _ ?_ (fun hHeld => ?_)
          · try dsimp only
            exact ⟨(unhide R).cell 0 _ rfl, (unhide R).cell 1 _ rfl, (unhide R).cell 2 _ rfl, (unhide R).cell 6 _ rfl, (unhide R).cell 8 _ rfl⟩
          clear hK K
          try simp only [Act.put, List.setIfInBounds_toArray, List.set_cons_zero, List.set_cons_succ]
          refine held_take 20 (oi := { dst := some 4, op := Op.assign (Operand.tmp 22), type := 4, pos := "serve.go:59", after := #[{ on := 17, ground := Ground.data }, { on := 19, ground := Ground.chain }, { on := 0, ground := Ground.phase }, { on := 1, ground := Ground.phase }, { on := 2, ground := Ground.phase }, { on := 3, ground := Ground.phase }, { on := 4, ground := Ground.phase }, { on := 5, ground := Ground.phase }, { on := 6, ground := Ground.phase }, { on := 7, ground := Ground.phase }, { on := 8, ground := Ground.phase }, { on := 9, ground := Ground.phase }, { on := 10, ground := Ground.phase }, { on := 11, ground := Ground.phase }, { on := 12, ground := Ground.phase }, { on := 13, ground := Ground.phase }, { on := 14, ground := Ground.phase }, { on := 15, ground := Ground.phase }, { on := 16, ground := Ground.phase }, { on := 17, ground := Ground.phase }, { on := 18, ground := Ground.phase }, { on := 19, ground := Ground.phase }], guard := none }) (v := ?_) (by kernel_rfl) rfl (by rfl) (by kernel_rfl) (by kernel_rfl) (fun _ _ _ h => h) ?_ (by assumption) ?_
          rotate_left
          · (intro w hSw; (try dsimp only at hSw); go_simp; try with_reducible rfl)
          try simp only [Act.put, List.setIfInBounds_toArray, List.set_cons_zero, List.set_cons_succ]
          refine wpAnyH_done (by kernel_rfl) ?_ _
          have y2 := box_cell (unhide N3) 2 (.string rl) rfl
          have z12 := (unhide R).cell 12 (.string ⟨#[]⟩) rfl
          have f12 := (unhide R).froz 12
          have R := hide ((unhide R).set 12 (.string rl))
          go_wp2_with fail
          go_ret
          exact unhide FE _ (unhide R)
        exact AllReadyH.nil
      exact AllReadyH.nil
    exact AllReadyH.nil
end Go.Proofs.YtcmiappiocfbiaaGreatDoor
