/- Heads: a request's line. -/
import Derived.Test.YtcmiappiocfbiaaGreatDoorB10
import Derived.Test.YtcmiappiocfbiaaGreatDoorB05
namespace Go.Proofs.YtcmiappiocfbiaaGreatDoor
open Go.ChangeShapes Go.WideShapes Go.ChangeAt Go.RowKit Go.Lib
set_option linter.unusedVariables false

theorem RC.drew {B : Nat} {w : World} {g : Nat} {T : TypeId} {cs : Array Value} {W : World} (h : RC B w g T cs W) : RC B w g T cs W.drew := ⟨h.row, h.low, h.base, h.bel.drew⟩
def requestV (l : Tx) (v : Value) : Prop := match requestL l with
  | some (m, p, q, h) => v = .tuple #[hdV m p q h, .bool true]
  | none => ∃ m p q h, v = .tuple #[hdV m p q h, .bool false]
theorem ver_eq (t : ByteArray) : (t.toList == [72, 84, 84, 80, 47, 49, 46, 49]) = (t.data.toList == versionL) := by rw [ByteArray.toList_eq]; rfl
set_option maxRecDepth 20000 in
set_option maxHeartbeats 8000000 in
theorem readRequest_calls (s : ByteArray) (hs : s.size ≤ 4096) (w : World) : Calls Tryz.prog 67 #[.string s] w fun e w' => (∃ v, e = .returned v ∧ requestV s.data.toList v) ∧ Below w.heap.size w w' := by
  have CC := hide (fun W => cut1_calls s 32 (by simp [maxLen]; omega) W)
  have hl1 : (cutL [32] s.data.toList).1.length ≤ s.size := by have := @cutL_len [32] s.data.toList; simpa using this
  have hl2 : (behindL [32] s.data.toList).length ≤ s.size := by have := @behindL_len [32] s.data.toList; simpa using this
  have T0 : requestL s.data.toList = match targetL (cutL [32] (behindL [32] s.data.toList)).1 with
    | none => none
    | some (p, q, h) => if isTokenL (cutL [32] s.data.toList).1 && behindL [32] (behindL [32] s.data.toList) == versionL then some ((cutL [32] s.data.toList).1, p, q, h) else none := rfl
  unfold cutV1 at CC
  generalize (cutL [32] s.data.toList).1 = m at *
  generalize behindL [32] s.data.toList = r at *
  generalize (cutL [32] s.data.toList).2.isSome = d1 at *
  have CD := hide (fun W => cut1_calls (stS r) 32 (by simp [maxLen, stS_size]; omega) W)
  rw [stS_list] at CD
  have hl3 : (cutL [32] r).1.length ≤ r.length := cutL_len
  have hl4 : (behindL [32] r).length ≤ r.length := behindL_len
  unfold cutV1 at CD
  generalize (cutL [32] r).1 = t at *
  generalize behindL [32] r = u at *
  generalize (cutL [32] r).2.isSome = d2 at *
  have TC := hide (fun W => readTarget_calls (stS t) (by rw [stS_size]; omega) W)
  have KC := hide (fun W => isToken_calls (stS m) (by simp [maxLen, stS_size]; omega) W)
  rw [stS_list] at TC KC
  have hvs : (stS u).size ≤ 9223372036854775807 := by rw [stS_size]; omega
  have hv := ver_eq (stS u)
  rw [stS_list] at hv
  have R0 := hide (RC.new w 58 #[.string ⟨#[]⟩, .string ⟨#[]⟩, .string ⟨#[]⟩, .string ⟨#[]⟩, .slice none 0 0])
  have hnl : stS ([] : Tx) = ⟨#[]⟩ := rfl
  cases ht : targetL t with
  | none =>
    have TC1 := hide (show ∀ W, Calls Tryz.prog 78 #[.string (stS t)] W fun e w' => (∃ p q h : Tx, e = .returned (.tuple #[.agg #[.string ⟨#[]⟩, .string (stS p), .string (stS q), .string (stS h), .slice none 0 0], .bool false])) ∧ Below W.heap.size W w' from fun W => (unhide TC W).mono fun e w' h => by
      obtain ⟨⟨v, rfl, hv⟩, hb⟩ := h
      unfold targetV at hv; rw [ht] at hv
      obtain ⟨p, q, h, rfl⟩ := hv
      exact ⟨⟨p, q, h, rfl⟩, hb⟩)
    have T1 := hide (show ∀ p q h : Tx, requestV s.data.toList (.tuple #[.agg #[.string (stS m), .string (stS p), .string (stS q), .string (stS h), .slice none 0 0], .bool false]) from fun p q h => by
      unfold requestV; rw [T0, ht]; exact ⟨m, p, q, h, rfl⟩)
    generalize stS m = sm at *
    generalize stS r = sr at *
    generalize stS t = st at *
    generalize stS u = su at *
    clear T0 ht hv TC
    go_enter Tryz.func67, Tryz.ntmps67
    go_wp2_with (first
      | (go_at_call_of 66 (Value.string s); refine (unhide CC _).mono ?_; rintro e W1 ⟨rfl, hb1⟩; have R1 := hide ((unhide R0).later hb1))
      | (go_at_call_of 66 (Value.string sr); refine (unhide CD _).mono ?_; rintro e W2 ⟨rfl, hb2⟩; have R2 := hide ((unhide R1).later hb2))
      | (go_at_call 78; refine (unhide TC1 _).mono ?_; rintro e W3 ⟨⟨p, q, hh, rfl⟩, hb3⟩
         have R3 := hide ((unhide R2).later hb3)))
    have N4 := hide (heap_new W3 (.cells #[.string sm, .string (stS p), .string (stS q), .string (stS hh), .slice none 0 0] 58))
    have R4 := hide ((unhide R3).alloc (.cells #[.string sm, .string (stS p), .string (stS q), .string (stS hh), .slice none 0 0] 58))
    generalize W3.alloc (.cells #[.string sm, .string (stS p), .string (stS q), .string (stS hh), .slice none 0 0] 58) = W4 at *
    have RR := hide ((unhide R4).drew)
    have NN := hide (show W4.drew.heap[W3.heap.size]? = _ from unhide N4)
    refine wp_region_held_drew (S := fun w' => True) (by kernel_rfl) ?_ (fun hHeld => ?_)
    · try dsimp only
      all_goals trivial
    refine held_take 1 (oi := { dst := some 32, op := Op.move (Operand.tmp 11), type := 4, pos := "head.go:67", after := #[], guard := none }) (v := ?_) (by kernel_rfl) rfl (by rfl) (by kernel_rfl) (by kernel_rfl) (fun _ _ _ h => h) ?_ (by assumption) ?_
    rotate_left
    · (intro w hSw; (try dsimp only at hSw); go_simp; try with_reducible rfl)
    try simp only [Act.put, List.setIfInBounds_toArray, List.set_cons_zero, List.set_cons_succ]
    refine held_take 2 (oi := { dst := some 33, op := Op.move (Operand.tmp 32), type := 4, pos := "head.go:67", after := #[{ on := 1, ground := Ground.data }], guard := none }) (v := ?_) (by kernel_rfl) rfl (by rfl) (by kernel_rfl) (by kernel_rfl) (fun _ _ _ h => h) ?_ (by assumption) ?_
    rotate_left
    · (intro w hSw; (try dsimp only at hSw); go_simp; try with_reducible rfl)
    try simp only [Act.put, List.setIfInBounds_toArray, List.set_cons_zero, List.set_cons_succ]
    refine held_skip 3 (oi := { dst := some 34, op := Op.move (Operand.tmp 4), type := 9, pos := "head.go:67", after := #[{ on := 2, ground := Ground.guard }], guard := some (2, true) }) (by kernel_rfl) rfl (by rfl) (by kernel_rfl) (by kernel_rfl) (fun _ _ _ h => h) (by assumption) ?_
    try simp only [Act.put, List.setIfInBounds_toArray, List.set_cons_zero, List.set_cons_succ]
    refine held_skip 4 (oi := { dst := some 35, op := Op.call { callee := Callee.value (Operand.func 79), args := #[Operand.tmp 34], argTypes := #[9] }, type := 4, pos := "head.go:67", after := #[{ on := 3, ground := Ground.data }, { on := 2, ground := Ground.chain }, { on := 2, ground := Ground.guard }], guard := some (2, true) }) (by kernel_rfl) rfl (by rfl) (by kernel_rfl) (by kernel_rfl) (fun _ _ _ h => h) (by assumption) ?_
    try simp only [Act.put, List.setIfInBounds_toArray, List.set_cons_zero, List.set_cons_succ]
    refine held_take 5 (oi := { dst := some 36, op := Op.pick (Operand.tmp 33) (Operand.tmp 35) (Operand.const (Value.bool false)), type := 4, pos := "head.go:67", after := #[{ on := 2, ground := Ground.data }, { on := 4, ground := Ground.data }], guard := none }) (v := ?_) (by kernel_rfl) rfl (by rfl) (by kernel_rfl) (by kernel_rfl) (fun _ _ _ h => h) ?_ (by assumption) ?_
    rotate_left
    · (intro w hSw; (try dsimp only at hSw); go_simp; try with_reducible rfl)
    try simp only [Act.put, List.setIfInBounds_toArray, List.set_cons_zero, List.set_cons_succ]
    refine held_take 6 (oi := { dst := some 37, op := Op.move (Operand.tmp 36), type := 4, pos := "head.go:67", after := #[{ on := 5, ground := Ground.data }, { on := 4, ground := Ground.chain }], guard := none }) (v := ?_) (by kernel_rfl) rfl (by rfl) (by kernel_rfl) (by kernel_rfl) (fun _ _ _ h => h) ?_ (by assumption) ?_
    rotate_left
    · (intro w hSw; (try dsimp only at hSw); go_simp; try with_reducible rfl)
    try simp only [Act.put, List.setIfInBounds_toArray, List.set_cons_zero, List.set_cons_succ]
    refine held_skip 7 (oi := { dst := some 38, op := Op.move (Operand.tmp 8), type := 9, pos := "head.go:67", after := #[{ on := 6, ground := Ground.guard }, { on := 10, ground := Ground.gcOnly Departure.lateStores }], guard := some (6, true) }) (by kernel_rfl) rfl (by rfl) (by kernel_rfl) (by kernel_rfl) (fun _ _ _ h => h) (by assumption) ?_
    try simp only [Act.put, List.setIfInBounds_toArray, List.set_cons_zero, List.set_cons_succ]
    refine held_skip 8 (oi := { dst := some 39, op := Op.binOp BinOp.eql 9 (Operand.tmp 38) (Operand.const (Value.string { data := #[72, 84, 84, 80, 47, 49, 46, 49] })) 9, type := 4, pos := "head.go:67", after := #[{ on := 7, ground := Ground.data }, { on := 6, ground := Ground.guard }, { on := 10, ground := Ground.gcOnly Departure.lateStores }], guard := some (6, true) }) (by kernel_rfl) rfl (by rfl) (by kernel_rfl) (by kernel_rfl) (fun _ _ _ h => h) (by assumption) ?_
    try simp only [Act.put, List.setIfInBounds_toArray, List.set_cons_zero, List.set_cons_succ]
    refine held_take 9 (oi := { dst := some 40, op := Op.pick (Operand.tmp 37) (Operand.tmp 39) (Operand.const (Value.bool false)), type := 4, pos := "head.go:67", after := #[{ on := 6, ground := Ground.data }, { on := 8, ground := Ground.data }, { on := 10, ground := Ground.gcOnly Departure.lateStores }], guard := none }) (v := ?_) (by kernel_rfl) rfl (by rfl) (by kernel_rfl) (by kernel_rfl) (fun _ _ _ h => h) ?_ (by assumption) ?_
    rotate_left
    · (intro w hSw; (try dsimp only at hSw); go_simp; try with_reducible rfl)
    try simp only [Act.put, List.setIfInBounds_toArray, List.set_cons_zero, List.set_cons_succ]
    refine wpAnyH_ready (rs := [0]) (by kernel_rfl) (by simp) ?_
    refine AllReadyH.cons (o := { dst := some 31, op := Op.load 58 (Operand.tmp 10), type := 58, pos := "head.go:67", after := #[], guard := none }) rfl (fun K hK => ?_) ?_
    · first
        | (have hV : W5 = W5 := rfl
           clear hV
           have y0 := box_cell (unhide NN) 0 (.string sm) rfl
           have y1 := box_cell (unhide NN) 1 (.string (stS p)) rfl
           have y2 := box_cell (unhide NN) 2 (.string (stS q)) rfl
           have y3 := box_cell (unhide NN) 3 (.string (stS hh)) rfl
           have y4 := box_cell (unhide NN) 4 (.slice none 0 0) rfl
           go_simp
           clear y0 y1 y2 y3 y4)
        | (skip
           have y0 := box_cell (unhide N4) 0 (.string sm) rfl
           have y1 := box_cell (unhide N4) 1 (.string (stS p)) rfl
           have y2 := box_cell (unhide N4) 2 (.string (stS q)) rfl
           have y3 := box_cell (unhide N4) 3 (.string (stS hh)) rfl
           have y4 := box_cell (unhide N4) 4 (.slice none 0 0) rfl
           go_simp
           clear y0 y1 y2 y3 y4)
      refine hK.out _ _ ?_ (fun hHeld => ?_)
      · try dsimp only
        all_goals trivial
      clear hK K
      try simp only [Act.put, List.setIfInBounds_toArray, List.set_cons_zero, List.set_cons_succ]
      refine wpAnyH_ready (rs := [10]) (by kernel_rfl) (by simp) ?_
      refine AllReadyH.cons (o := { dst := none, op := Op.store 58 (Operand.tmp 2) (Operand.tmp 31), type := 0, pos := "head.go:67", after := #[{ on := 0, ground := Ground.data }, { on := 6, ground := Ground.chain }, { on := 0, ground := Ground.phase }, { on := 1, ground := Ground.textOnly Departure.lateStores }, { on := 2, ground := Ground.textOnly Departure.lateStores }, { on := 3, ground := Ground.textOnly Departure.lateStores }, { on := 4, ground := Ground.textOnly Departure.lateStoresUnsure }, { on := 5, ground := Ground.textOnly Departure.lateStores }, { on := 6, ground := Ground.textOnly Departure.lateStores }, { on := 7, ground := Ground.textOnly Departure.lateStores }, { on := 8, ground := Ground.textOnly Departure.lateStores }, { on := 9, ground := Ground.textOnly Departure.lateStores }], guard := none }) rfl (fun K hK => ?_) ?_
      · have z0 := (unhide R4).cell 0 (.string ⟨#[]⟩) rfl
        have z1 := (unhide R4).cell 1 (.string ⟨#[]⟩) rfl
        have z2 := (unhide R4).cell 2 (.string ⟨#[]⟩) rfl
        have z3 := (unhide R4).cell 3 (.string ⟨#[]⟩) rfl
        have z4 := (unhide R4).cell 4 (.slice none 0 0) rfl
        have f0 := (unhide R4).froz 0
        have f1 := (unhide R4).froz 1
        have f2 := (unhide R4).froz 2
        have f3 := (unhide R4).froz 3
        have f4 := (unhide R4).froz 4
        have R9 := hide (((unhide R4).set5 (.string sm) (.string (stS p)) (.string (stS q)) (.string (stS hh)) (.slice none 0 0)).drew)
        go_simp
        clear z0 z1 z2 z3 z4 f0 f1 f2 f3 f4
        refine hK.out _ _ ?_ (fun hHeld => ?_)
        · try dsimp only
          all_goals trivial
        clear hK K
        try simp only [Act.put, List.setIfInBounds_toArray, List.set_cons_zero, List.set_cons_succ]
        refine held_take 11 (oi := { dst := some 3, op := Op.assign (Operand.tmp 40), type := 4, pos := "head.go:67", after := #[{ on := 9, ground := Ground.data }, { on := 10, ground := Ground.chain }, { on := 0, ground := Ground.phase }, { on := 1, ground := Ground.phase }, { on := 2, ground := Ground.phase }, { on := 3, ground := Ground.phase }, { on := 4, ground := Ground.phase }, { on := 5, ground := Ground.phase }, { on := 6, ground := Ground.phase }, { on := 7, ground := Ground.phase }, { on := 8, ground := Ground.phase }, { on := 9, ground := Ground.phase }, { on := 10, ground := Ground.phase }], guard := none }) (v := ?_) (by kernel_rfl) rfl (by rfl) (by kernel_rfl) (by kernel_rfl) (fun _ _ _ h => h) ?_ (by assumption) ?_
        rotate_left
        · (intro w hSw; (try dsimp only at hSw); go_simp; try with_reducible rfl)
        try simp only [Act.put, List.setIfInBounds_toArray, List.set_cons_zero, List.set_cons_succ]
        refine wpAnyH_done (by kernel_rfl) ?_ _
        go_wp2_with fail
        have g0 := (unhide R9).cell 0 (.string sm) rfl
        have g1 := (unhide R9).cell 1 (.string (stS p)) rfl
        have g2 := (unhide R9).cell 2 (.string (stS q)) rfl
        have g3 := (unhide R9).cell 3 (.string (stS hh)) rfl
        have g4 := (unhide R9).cell 4 (.slice none 0 0) rfl
        refine bodyPost_ret (v := .tuple #[.agg #[.string sm, .string (stS p), .string (stS q), .string (stS hh), .slice none 0 0], .bool false]) ?_ rfl ⟨⟨_, rfl, unhide T1 p q hh⟩, (unhide R9).bel⟩
        rw [results_cell_tmp rfl]
        go_simp
        try rfl
      exact AllReadyH.nil
    exact AllReadyH.nil
  | some x =>
    obtain ⟨p, q, hx⟩ := x
    have TC1 := hide (show ∀ W, Calls Tryz.prog 78 #[.string (stS t)] W fun e w' => e = .returned (.tuple #[.agg #[.string ⟨#[]⟩, .string (stS p), .string (stS q), .string (stS hx), .slice none 0 0], .bool true]) ∧ Below W.heap.size W w' from fun W => (unhide TC W).mono fun e w' h => by
      obtain ⟨⟨v, rfl, hv⟩, hb⟩ := h
      unfold targetV at hv; rw [ht] at hv
      subst hv
      exact ⟨rfl, hb⟩)
    have T1 := hide (show isTokenL m = false → requestV s.data.toList (.tuple #[.agg #[.string (stS m), .string (stS p), .string (stS q), .string (stS hx), .slice none 0 0], .bool false]) from fun hk => by
      unfold requestV; rw [T0, ht]; simp only [hk]; exact ⟨m, p, q, hx, rfl⟩)
    have T2 := hide (show isTokenL m = true → requestV s.data.toList (.tuple #[.agg #[.string (stS m), .string (stS p), .string (stS q), .string (stS hx), .slice none 0 0], .bool (u == versionL)]) from fun hk => by
      unfold requestV; rw [T0, ht]; simp only [hk]
      cases he : u == versionL with
      | true => rfl
      | false => exact ⟨m, p, q, hx, rfl⟩)
    generalize (u == versionL) = kv at *
    generalize stS m = sm at *
    generalize stS r = sr at *
    generalize stS t = st at *
    generalize stS u = su at *
    generalize stS p = sp at *
    generalize stS q = sq at *
    generalize stS hx = sh at *
    clear T0 ht TC
    go_enter Tryz.func67, Tryz.ntmps67
    go_wp2_with (first
      | (go_at_call_of 66 (Value.string s); refine (unhide CC _).mono ?_; rintro e W1 ⟨rfl, hb1⟩; have R1 := hide ((unhide R0).later hb1))
      | (go_at_call_of 66 (Value.string sr); refine (unhide CD _).mono ?_; rintro e W2 ⟨rfl, hb2⟩; have R2 := hide ((unhide R1).later hb2))
      | (go_at_call 78; refine (unhide TC1 _).mono ?_; rintro e W3 ⟨rfl, hb3⟩
         have R3 := hide ((unhide R2).later hb3)))
    have N4 := hide (heap_new W3 (.cells #[.string sm, .string sp, .string sq, .string sh, .slice none 0 0] 58))
    have R4 := hide ((unhide R3).alloc (.cells #[.string sm, .string sp, .string sq, .string sh, .slice none 0 0] 58))
    generalize W3.alloc (.cells #[.string sm, .string sp, .string sq, .string sh, .slice none 0 0] 58) = W4 at *
    cases hk : isTokenL m with
    | false =>
      have RR := hide ((unhide R4).drew)
      have NN := hide (show W4.drew.heap[W3.heap.size]? = _ from unhide N4)
      refine wp_region_held_drew (S := fun w' => True) (by kernel_rfl) ?_ (fun hHeld => ?_)
      · try dsimp only
        all_goals trivial
      refine held_take 1 (oi := { dst := some 32, op := Op.move (Operand.tmp 11), type := 4, pos := "head.go:67", after := #[], guard := none }) (v := ?_) (by kernel_rfl) rfl (by rfl) (by kernel_rfl) (by kernel_rfl) (fun _ _ _ h => h) ?_ (by assumption) ?_
      rotate_left
      · (intro w hSw; (try dsimp only at hSw); go_simp; try with_reducible rfl)
      try simp only [Act.put, List.setIfInBounds_toArray, List.set_cons_zero, List.set_cons_succ]
      refine held_take 2 (oi := { dst := some 33, op := Op.move (Operand.tmp 32), type := 4, pos := "head.go:67", after := #[{ on := 1, ground := Ground.data }], guard := none }) (v := ?_) (by kernel_rfl) rfl (by rfl) (by kernel_rfl) (by kernel_rfl) (fun _ _ _ h => h) ?_ (by assumption) ?_
      rotate_left
      · (intro w hSw; (try dsimp only at hSw); go_simp; try with_reducible rfl)
      try simp only [Act.put, List.setIfInBounds_toArray, List.set_cons_zero, List.set_cons_succ]
      refine held_take 3 (oi := { dst := some 34, op := Op.move (Operand.tmp 4), type := 9, pos := "head.go:67", after := #[{ on := 2, ground := Ground.guard }], guard := some (2, true) }) (v := ?_) (by kernel_rfl) rfl (by rfl) (by kernel_rfl) (by kernel_rfl) (fun _ _ _ h => h) ?_ (by assumption) ?_
      rotate_left
      · (intro w hSw; (try dsimp only at hSw); go_simp; try with_reducible rfl)
      try simp only [Act.put, List.setIfInBounds_toArray, List.set_cons_zero, List.set_cons_succ]
      refine wpAnyH_ready (rs := [0, 4]) (by kernel_rfl) (by simp) ?_
      refine AllReadyH.cons (o := { dst := some 31, op := Op.load 58 (Operand.tmp 10), type := 58, pos := "head.go:67", after := #[], guard := none }) rfl (fun K hK => ?_) ?_
      · first
          | (have hV : W5 = W5 := rfl
             clear hV
             have y0 := box_cell (unhide NN) 0 (.string sm) rfl
             have y1 := box_cell (unhide NN) 1 (.string sp) rfl
             have y2 := box_cell (unhide NN) 2 (.string sq) rfl
             have y3 := box_cell (unhide NN) 3 (.string sh) rfl
             have y4 := box_cell (unhide NN) 4 (.slice none 0 0) rfl
             go_simp
             clear y0 y1 y2 y3 y4)
          | (skip
             have y0 := box_cell (unhide N4) 0 (.string sm) rfl
             have y1 := box_cell (unhide N4) 1 (.string sp) rfl
             have y2 := box_cell (unhide N4) 2 (.string sq) rfl
             have y3 := box_cell (unhide N4) 3 (.string sh) rfl
             have y4 := box_cell (unhide N4) 4 (.slice none 0 0) rfl
             go_simp
             clear y0 y1 y2 y3 y4)
        refine hK.out _ _ ?_ (fun hHeld => ?_)
        · try dsimp only
          all_goals trivial
        clear hK K
        try simp only [Act.put, List.setIfInBounds_toArray, List.set_cons_zero, List.set_cons_succ]
        refine wpAnyH_ready (rs := [4]) (by kernel_rfl) (by simp) ?_
        refine AllReadyH.cons (o := { dst := some 35, op := Op.call { callee := Callee.value (Operand.func 79), args := #[Operand.tmp 34], argTypes := #[9] }, type := 4, pos := "head.go:67", after := #[{ on := 3, ground := Ground.data }, { on := 2, ground := Ground.chain }, { on := 2, ground := Ground.guard }], guard := some (2, true) }) rfl (fun K hK => ?_) ?_
        · go_simp
          go_at_call 79
          refine (unhide KC _).mono ?_
          rintro e W5 ⟨rfl, hb5⟩
          rw [hk]
          have RR := hide ((unhide RR).later hb5)
          have NN := hide (later_block hb5 (unhide NN))
          go_wp2_with fail
          refine hK.out _ _ ?_ (fun hHeld => ?_)
          · try dsimp only
            all_goals trivial
          clear hK K
          try simp only [Act.put, List.setIfInBounds_toArray, List.set_cons_zero, List.set_cons_succ]
          refine held_take 5 (oi := { dst := some 36, op := Op.pick (Operand.tmp 33) (Operand.tmp 35) (Operand.const (Value.bool false)), type := 4, pos := "head.go:67", after := #[{ on := 2, ground := Ground.data }, { on := 4, ground := Ground.data }], guard := none }) (v := ?_) (by kernel_rfl) rfl (by rfl) (by kernel_rfl) (by kernel_rfl) (fun _ _ _ h => h) ?_ (by assumption) ?_
          rotate_left
          · (intro w hSw; (try dsimp only at hSw); go_simp; try with_reducible rfl)
          try simp only [Act.put, List.setIfInBounds_toArray, List.set_cons_zero, List.set_cons_succ]
          refine held_take 6 (oi := { dst := some 37, op := Op.move (Operand.tmp 36), type := 4, pos := "head.go:67", after := #[{ on := 5, ground := Ground.data }, { on := 4, ground := Ground.chain }], guard := none }) (v := ?_) (by kernel_rfl) rfl (by rfl) (by kernel_rfl) (by kernel_rfl) (fun _ _ _ h => h) ?_ (by assumption) ?_
          rotate_left
          · (intro w hSw; (try dsimp only at hSw); go_simp; try with_reducible rfl)
          try simp only [Act.put, List.setIfInBounds_toArray, List.set_cons_zero, List.set_cons_succ]
          refine held_skip 7 (oi := { dst := some 38, op := Op.move (Operand.tmp 8), type := 9, pos := "head.go:67", after := #[{ on := 6, ground := Ground.guard }, { on := 10, ground := Ground.gcOnly Departure.lateStores }], guard := some (6, true) }) (by kernel_rfl) rfl (by rfl) (by kernel_rfl) (by kernel_rfl) (fun _ _ _ h => h) (by assumption) ?_
          try simp only [Act.put, List.setIfInBounds_toArray, List.set_cons_zero, List.set_cons_succ]
          refine held_skip 8 (oi := { dst := some 39, op := Op.binOp BinOp.eql 9 (Operand.tmp 38) (Operand.const (Value.string { data := #[72, 84, 84, 80, 47, 49, 46, 49] })) 9, type := 4, pos := "head.go:67", after := #[{ on := 7, ground := Ground.data }, { on := 6, ground := Ground.guard }, { on := 10, ground := Ground.gcOnly Departure.lateStores }], guard := some (6, true) }) (by kernel_rfl) rfl (by rfl) (by kernel_rfl) (by kernel_rfl) (fun _ _ _ h => h) (by assumption) ?_
          try simp only [Act.put, List.setIfInBounds_toArray, List.set_cons_zero, List.set_cons_succ]
          refine held_take 9 (oi := { dst := some 40, op := Op.pick (Operand.tmp 37) (Operand.tmp 39) (Operand.const (Value.bool false)), type := 4, pos := "head.go:67", after := #[{ on := 6, ground := Ground.data }, { on := 8, ground := Ground.data }, { on := 10, ground := Ground.gcOnly Departure.lateStores }], guard := none }) (v := ?_) (by kernel_rfl) rfl (by rfl) (by kernel_rfl) (by kernel_rfl) (fun _ _ _ h => h) ?_ (by assumption) ?_
          rotate_left
          · (intro w hSw; (try dsimp only at hSw); go_simp; try with_reducible rfl)
          try simp only [Act.put, List.setIfInBounds_toArray, List.set_cons_zero, List.set_cons_succ]
          refine wpAnyH_ready (rs := [10]) (by kernel_rfl) (by simp) ?_
          refine AllReadyH.cons (o := { dst := none, op := Op.store 58 (Operand.tmp 2) (Operand.tmp 31), type := 0, pos := "head.go:67", after := #[{ on := 0, ground := Ground.data }, { on := 6, ground := Ground.chain }, { on := 0, ground := Ground.phase }, { on := 1, ground := Ground.textOnly Departure.lateStores }, { on := 2, ground := Ground.textOnly Departure.lateStores }, { on := 3, ground := Ground.textOnly Departure.lateStores }, { on := 4, ground := Ground.textOnly Departure.lateStoresUnsure }, { on := 5, ground := Ground.textOnly Departure.lateStores }, { on := 6, ground := Ground.textOnly Departure.lateStores }, { on := 7, ground := Ground.textOnly Departure.lateStores }, { on := 8, ground := Ground.textOnly Departure.lateStores }, { on := 9, ground := Ground.textOnly Departure.lateStores }], guard := none }) rfl (fun K hK => ?_) ?_
          · have z0 := (unhide RR).cell 0 (.string ⟨#[]⟩) rfl
            have z1 := (unhide RR).cell 1 (.string ⟨#[]⟩) rfl
            have z2 := (unhide RR).cell 2 (.string ⟨#[]⟩) rfl
            have z3 := (unhide RR).cell 3 (.string ⟨#[]⟩) rfl
            have z4 := (unhide RR).cell 4 (.slice none 0 0) rfl
            have f0 := (unhide RR).froz 0
            have f1 := (unhide RR).froz 1
            have f2 := (unhide RR).froz 2
            have f3 := (unhide RR).froz 3
            have f4 := (unhide RR).froz 4
            have R9 := hide ((unhide RR).set5 (.string sm) (.string sp) (.string sq) (.string sh) (.slice none 0 0))
            go_simp
            clear z0 z1 z2 z3 z4 f0 f1 f2 f3 f4
            refine hK.out _ _ ?_ (fun hHeld => ?_)
            · try dsimp only
              all_goals trivial
            clear hK K
            try simp only [Act.put, List.setIfInBounds_toArray, List.set_cons_zero, List.set_cons_succ]
            refine held_take 11 (oi := { dst := some 3, op := Op.assign (Operand.tmp 40), type := 4, pos := "head.go:67", after := #[{ on := 9, ground := Ground.data }, { on := 10, ground := Ground.chain }, { on := 0, ground := Ground.phase }, { on := 1, ground := Ground.phase }, { on := 2, ground := Ground.phase }, { on := 3, ground := Ground.phase }, { on := 4, ground := Ground.phase }, { on := 5, ground := Ground.phase }, { on := 6, ground := Ground.phase }, { on := 7, ground := Ground.phase }, { on := 8, ground := Ground.phase }, { on := 9, ground := Ground.phase }, { on := 10, ground := Ground.phase }], guard := none }) (v := ?_) (by kernel_rfl) rfl (by rfl) (by kernel_rfl) (by kernel_rfl) (fun _ _ _ h => h) ?_ (by assumption) ?_
            rotate_left
            · (intro w hSw; (try dsimp only at hSw); go_simp; try with_reducible rfl)
            try simp only [Act.put, List.setIfInBounds_toArray, List.set_cons_zero, List.set_cons_succ]
            refine wpAnyH_done (by kernel_rfl) ?_ _
            go_wp2_with fail
            have g0 := (unhide R9).cell 0 (.string sm) rfl
            have g1 := (unhide R9).cell 1 (.string sp) rfl
            have g2 := (unhide R9).cell 2 (.string sq) rfl
            have g3 := (unhide R9).cell 3 (.string sh) rfl
            have g4 := (unhide R9).cell 4 (.slice none 0 0) rfl
            refine bodyPost_ret (v := .tuple #[.agg #[.string sm, .string sp, .string sq, .string sh, .slice none 0 0], .bool false]) ?_ rfl ⟨⟨_, rfl, unhide T1 hk⟩, (unhide R9).bel⟩
            rw [results_cell_tmp rfl]
            go_simp
            try rfl
          exact AllReadyH.nil
        exact AllReadyH.nil
      refine AllReadyH.cons (o := { dst := some 35, op := Op.call { callee := Callee.value (Operand.func 79), args := #[Operand.tmp 34], argTypes := #[9] }, type := 4, pos := "head.go:67", after := #[{ on := 3, ground := Ground.data }, { on := 2, ground := Ground.chain }, { on := 2, ground := Ground.guard }], guard := some (2, true) }) rfl (fun K hK => ?_) ?_
      · go_simp
        go_at_call 79
        refine (unhide KC _).mono ?_
        rintro e W5 ⟨rfl, hb5⟩
        rw [hk]
        have RR := hide ((unhide RR).later hb5)
        have NN := hide (later_block hb5 (unhide NN))
        go_wp2_with fail
        refine hK.out _ _ ?_ (fun hHeld => ?_)
        · try dsimp only
          all_goals trivial
        clear hK K
        try simp only [Act.put, List.setIfInBounds_toArray, List.set_cons_zero, List.set_cons_succ]
        refine held_take 5 (oi := { dst := some 36, op := Op.pick (Operand.tmp 33) (Operand.tmp 35) (Operand.const (Value.bool false)), type := 4, pos := "head.go:67", after := #[{ on := 2, ground := Ground.data }, { on := 4, ground := Ground.data }], guard := none }) (v := ?_) (by kernel_rfl) rfl (by rfl) (by kernel_rfl) (by kernel_rfl) (fun _ _ _ h => h) ?_ (by assumption) ?_
        rotate_left
        · (intro w hSw; (try dsimp only at hSw); go_simp; try with_reducible rfl)
        try simp only [Act.put, List.setIfInBounds_toArray, List.set_cons_zero, List.set_cons_succ]
        refine held_take 6 (oi := { dst := some 37, op := Op.move (Operand.tmp 36), type := 4, pos := "head.go:67", after := #[{ on := 5, ground := Ground.data }, { on := 4, ground := Ground.chain }], guard := none }) (v := ?_) (by kernel_rfl) rfl (by rfl) (by kernel_rfl) (by kernel_rfl) (fun _ _ _ h => h) ?_ (by assumption) ?_
        rotate_left
        · (intro w hSw; (try dsimp only at hSw); go_simp; try with_reducible rfl)
        try simp only [Act.put, List.setIfInBounds_toArray, List.set_cons_zero, List.set_cons_succ]
        refine held_skip 7 (oi := { dst := some 38, op := Op.move (Operand.tmp 8), type := 9, pos := "head.go:67", after := #[{ on := 6, ground := Ground.guard }, { on := 10, ground := Ground.gcOnly Departure.lateStores }], guard := some (6, true) }) (by kernel_rfl) rfl (by rfl) (by kernel_rfl) (by kernel_rfl) (fun _ _ _ h => h) (by assumption) ?_
        try simp only [Act.put, List.setIfInBounds_toArray, List.set_cons_zero, List.set_cons_succ]
        refine held_skip 8 (oi := { dst := some 39, op := Op.binOp BinOp.eql 9 (Operand.tmp 38) (Operand.const (Value.string { data := #[72, 84, 84, 80, 47, 49, 46, 49] })) 9, type := 4, pos := "head.go:67", after := #[{ on := 7, ground := Ground.data }, { on := 6, ground := Ground.guard }, { on := 10, ground := Ground.gcOnly Departure.lateStores }], guard := some (6, true) }) (by kernel_rfl) rfl (by rfl) (by kernel_rfl) (by kernel_rfl) (fun _ _ _ h => h) (by assumption) ?_
        try simp only [Act.put, List.setIfInBounds_toArray, List.set_cons_zero, List.set_cons_succ]
        refine held_take 9 (oi := { dst := some 40, op := Op.pick (Operand.tmp 37) (Operand.tmp 39) (Operand.const (Value.bool false)), type := 4, pos := "head.go:67", after := #[{ on := 6, ground := Ground.data }, { on := 8, ground := Ground.data }, { on := 10, ground := Ground.gcOnly Departure.lateStores }], guard := none }) (v := ?_) (by kernel_rfl) rfl (by rfl) (by kernel_rfl) (by kernel_rfl) (fun _ _ _ h => h) ?_ (by assumption) ?_
        rotate_left
        · (intro w hSw; (try dsimp only at hSw); go_simp; try with_reducible rfl)
        try simp only [Act.put, List.setIfInBounds_toArray, List.set_cons_zero, List.set_cons_succ]
        refine wpAnyH_ready (rs := [0]) (by kernel_rfl) (by simp) ?_
        refine AllReadyH.cons (o := { dst := some 31, op := Op.load 58 (Operand.tmp 10), type := 58, pos := "head.go:67", after := #[], guard := none }) rfl (fun K hK => ?_) ?_
        · first
            | (have hV : W5 = W5 := rfl
               clear hV
               have y0 := box_cell (unhide NN) 0 (.string sm) rfl
               have y1 := box_cell (unhide NN) 1 (.string sp) rfl
               have y2 := box_cell (unhide NN) 2 (.string sq) rfl
               have y3 := box_cell (unhide NN) 3 (.string sh) rfl
               have y4 := box_cell (unhide NN) 4 (.slice none 0 0) rfl
               go_simp
               clear y0 y1 y2 y3 y4)
            | (skip
               have y0 := box_cell (unhide N4) 0 (.string sm) rfl
               have y1 := box_cell (unhide N4) 1 (.string sp) rfl
               have y2 := box_cell (unhide N4) 2 (.string sq) rfl
               have y3 := box_cell (unhide N4) 3 (.string sh) rfl
               have y4 := box_cell (unhide N4) 4 (.slice none 0 0) rfl
               go_simp
               clear y0 y1 y2 y3 y4)
          refine hK.out _ _ ?_ (fun hHeld => ?_)
          · try dsimp only
            all_goals trivial
          clear hK K
          try simp only [Act.put, List.setIfInBounds_toArray, List.set_cons_zero, List.set_cons_succ]
          refine wpAnyH_ready (rs := [10]) (by kernel_rfl) (by simp) ?_
          refine AllReadyH.cons (o := { dst := none, op := Op.store 58 (Operand.tmp 2) (Operand.tmp 31), type := 0, pos := "head.go:67", after := #[{ on := 0, ground := Ground.data }, { on := 6, ground := Ground.chain }, { on := 0, ground := Ground.phase }, { on := 1, ground := Ground.textOnly Departure.lateStores }, { on := 2, ground := Ground.textOnly Departure.lateStores }, { on := 3, ground := Ground.textOnly Departure.lateStores }, { on := 4, ground := Ground.textOnly Departure.lateStoresUnsure }, { on := 5, ground := Ground.textOnly Departure.lateStores }, { on := 6, ground := Ground.textOnly Departure.lateStores }, { on := 7, ground := Ground.textOnly Departure.lateStores }, { on := 8, ground := Ground.textOnly Departure.lateStores }, { on := 9, ground := Ground.textOnly Departure.lateStores }], guard := none }) rfl (fun K hK => ?_) ?_
          · have z0 := (unhide RR).cell 0 (.string ⟨#[]⟩) rfl
            have z1 := (unhide RR).cell 1 (.string ⟨#[]⟩) rfl
            have z2 := (unhide RR).cell 2 (.string ⟨#[]⟩) rfl
            have z3 := (unhide RR).cell 3 (.string ⟨#[]⟩) rfl
            have z4 := (unhide RR).cell 4 (.slice none 0 0) rfl
            have f0 := (unhide RR).froz 0
            have f1 := (unhide RR).froz 1
            have f2 := (unhide RR).froz 2
            have f3 := (unhide RR).froz 3
            have f4 := (unhide RR).froz 4
            have R9 := hide ((unhide RR).set5 (.string sm) (.string sp) (.string sq) (.string sh) (.slice none 0 0))
            go_simp
            clear z0 z1 z2 z3 z4 f0 f1 f2 f3 f4
            refine hK.out _ _ ?_ (fun hHeld => ?_)
            · try dsimp only
              all_goals trivial
            clear hK K
            try simp only [Act.put, List.setIfInBounds_toArray, List.set_cons_zero, List.set_cons_succ]
            refine held_take 11 (oi := { dst := some 3, op := Op.assign (Operand.tmp 40), type := 4, pos := "head.go:67", after := #[{ on := 9, ground := Ground.data }, { on := 10, ground := Ground.chain }, { on := 0, ground := Ground.phase }, { on := 1, ground := Ground.phase }, { on := 2, ground := Ground.phase }, { on := 3, ground := Ground.phase }, { on := 4, ground := Ground.phase }, { on := 5, ground := Ground.phase }, { on := 6, ground := Ground.phase }, { on := 7, ground := Ground.phase }, { on := 8, ground := Ground.phase }, { on := 9, ground := Ground.phase }, { on := 10, ground := Ground.phase }], guard := none }) (v := ?_) (by kernel_rfl) rfl (by rfl) (by kernel_rfl) (by kernel_rfl) (fun _ _ _ h => h) ?_ (by assumption) ?_
            rotate_left
            · (intro w hSw; (try dsimp only at hSw); go_simp; try with_reducible rfl)
            try simp only [Act.put, List.setIfInBounds_toArray, List.set_cons_zero, List.set_cons_succ]
            refine wpAnyH_done (by kernel_rfl) ?_ _
            go_wp2_with fail
            have g0 := (unhide R9).cell 0 (.string sm) rfl
            have g1 := (unhide R9).cell 1 (.string sp) rfl
            have g2 := (unhide R9).cell 2 (.string sq) rfl
            have g3 := (unhide R9).cell 3 (.string sh) rfl
            have g4 := (unhide R9).cell 4 (.slice none 0 0) rfl
            refine bodyPost_ret (v := .tuple #[.agg #[.string sm, .string sp, .string sq, .string sh, .slice none 0 0], .bool false]) ?_ rfl ⟨⟨_, rfl, unhide T1 hk⟩, (unhide R9).bel⟩
            rw [results_cell_tmp rfl]
            go_simp
            try rfl
          exact AllReadyH.nil
        exact AllReadyH.nil
      exact AllReadyH.nil
    | true =>
      have RR := hide ((unhide R4).drew)
      have NN := hide (show W4.drew.heap[W3.heap.size]? = _ from unhide N4)
      refine wp_region_held_drew (S := fun w' => True) (by kernel_rfl) ?_ (fun hHeld => ?_)
      · try dsimp only
        all_goals trivial
      refine held_take 1 (oi := { dst := some 32, op := Op.move (Operand.tmp 11), type := 4, pos := "head.go:67", after := #[], guard := none }) (v := ?_) (by kernel_rfl) rfl (by rfl) (by kernel_rfl) (by kernel_rfl) (fun _ _ _ h => h) ?_ (by assumption) ?_
      rotate_left
      · (intro w hSw; (try dsimp only at hSw); go_simp; try with_reducible rfl)
      try simp only [Act.put, List.setIfInBounds_toArray, List.set_cons_zero, List.set_cons_succ]
      refine held_take 2 (oi := { dst := some 33, op := Op.move (Operand.tmp 32), type := 4, pos := "head.go:67", after := #[{ on := 1, ground := Ground.data }], guard := none }) (v := ?_) (by kernel_rfl) rfl (by rfl) (by kernel_rfl) (by kernel_rfl) (fun _ _ _ h => h) ?_ (by assumption) ?_
      rotate_left
      · (intro w hSw; (try dsimp only at hSw); go_simp; try with_reducible rfl)
      try simp only [Act.put, List.setIfInBounds_toArray, List.set_cons_zero, List.set_cons_succ]
      refine held_take 3 (oi := { dst := some 34, op := Op.move (Operand.tmp 4), type := 9, pos := "head.go:67", after := #[{ on := 2, ground := Ground.guard }], guard := some (2, true) }) (v := ?_) (by kernel_rfl) rfl (by rfl) (by kernel_rfl) (by kernel_rfl) (fun _ _ _ h => h) ?_ (by assumption) ?_
      rotate_left
      · (intro w hSw; (try dsimp only at hSw); go_simp; try with_reducible rfl)
      try simp only [Act.put, List.setIfInBounds_toArray, List.set_cons_zero, List.set_cons_succ]
      refine wpAnyH_ready (rs := [0, 4]) (by kernel_rfl) (by simp) ?_
      refine AllReadyH.cons (o := { dst := some 31, op := Op.load 58 (Operand.tmp 10), type := 58, pos := "head.go:67", after := #[], guard := none }) rfl (fun K hK => ?_) ?_
      · first
          | (have hV : W5 = W5 := rfl
             clear hV
             have y0 := box_cell (unhide NN) 0 (.string sm) rfl
             have y1 := box_cell (unhide NN) 1 (.string sp) rfl
             have y2 := box_cell (unhide NN) 2 (.string sq) rfl
             have y3 := box_cell (unhide NN) 3 (.string sh) rfl
             have y4 := box_cell (unhide NN) 4 (.slice none 0 0) rfl
             go_simp
             clear y0 y1 y2 y3 y4)
          | (skip
             have y0 := box_cell (unhide N4) 0 (.string sm) rfl
             have y1 := box_cell (unhide N4) 1 (.string sp) rfl
             have y2 := box_cell (unhide N4) 2 (.string sq) rfl
             have y3 := box_cell (unhide N4) 3 (.string sh) rfl
             have y4 := box_cell (unhide N4) 4 (.slice none 0 0) rfl
             go_simp
             clear y0 y1 y2 y3 y4)
        refine hK.out _ _ ?_ (fun hHeld => ?_)
        · try dsimp only
          all_goals trivial
        clear hK K
        try simp only [Act.put, List.setIfInBounds_toArray, List.set_cons_zero, List.set_cons_succ]
        refine wpAnyH_ready (rs := [4]) (by kernel_rfl) (by simp) ?_
        refine AllReadyH.cons (o := { dst := some 35, op := Op.call { callee := Callee.value (Operand.func 79), args := #[Operand.tmp 34], argTypes := #[9] }, type := 4, pos := "head.go:67", after := #[{ on := 3, ground := Ground.data }, { on := 2, ground := Ground.chain }, { on := 2, ground := Ground.guard }], guard := some (2, true) }) rfl (fun K hK => ?_) ?_
        · go_simp
          go_at_call 79
          refine (unhide KC _).mono ?_
          rintro e W5 ⟨rfl, hb5⟩
          rw [hk]
          have RR := hide ((unhide RR).later hb5)
          have NN := hide (later_block hb5 (unhide NN))
          go_wp2_with fail
          refine hK.out _ _ ?_ (fun hHeld => ?_)
          · try dsimp only
            all_goals trivial
          clear hK K
          try simp only [Act.put, List.setIfInBounds_toArray, List.set_cons_zero, List.set_cons_succ]
          refine held_take 5 (oi := { dst := some 36, op := Op.pick (Operand.tmp 33) (Operand.tmp 35) (Operand.const (Value.bool false)), type := 4, pos := "head.go:67", after := #[{ on := 2, ground := Ground.data }, { on := 4, ground := Ground.data }], guard := none }) (v := ?_) (by kernel_rfl) rfl (by rfl) (by kernel_rfl) (by kernel_rfl) (fun _ _ _ h => h) ?_ (by assumption) ?_
          rotate_left
          · (intro w hSw; (try dsimp only at hSw); go_simp; try with_reducible rfl)
          try simp only [Act.put, List.setIfInBounds_toArray, List.set_cons_zero, List.set_cons_succ]
          refine held_take 6 (oi := { dst := some 37, op := Op.move (Operand.tmp 36), type := 4, pos := "head.go:67", after := #[{ on := 5, ground := Ground.data }, { on := 4, ground := Ground.chain }], guard := none }) (v := ?_) (by kernel_rfl) rfl (by rfl) (by kernel_rfl) (by kernel_rfl) (fun _ _ _ h => h) ?_ (by assumption) ?_
          rotate_left
          · (intro w hSw; (try dsimp only at hSw); go_simp; try with_reducible rfl)
          try simp only [Act.put, List.setIfInBounds_toArray, List.set_cons_zero, List.set_cons_succ]
          refine held_take 7 (oi := { dst := some 38, op := Op.move (Operand.tmp 8), type := 9, pos := "head.go:67", after := #[{ on := 6, ground := Ground.guard }, { on := 10, ground := Ground.gcOnly Departure.lateStores }], guard := some (6, true) }) (v := ?_) (by kernel_rfl) rfl (by rfl) (by kernel_rfl) (by kernel_rfl) (fun _ _ _ h => h) ?_ (by assumption) ?_
          rotate_left
          · (intro w hSw; (try dsimp only at hSw); go_simp; try with_reducible rfl)
          try simp only [Act.put, List.setIfInBounds_toArray, List.set_cons_zero, List.set_cons_succ]
          refine held_take 8 (oi := { dst := some 39, op := Op.binOp BinOp.eql 9 (Operand.tmp 38) (Operand.const (Value.string { data := #[72, 84, 84, 80, 47, 49, 46, 49] })) 9, type := 4, pos := "head.go:67", after := #[{ on := 7, ground := Ground.data }, { on := 6, ground := Ground.guard }, { on := 10, ground := Ground.gcOnly Departure.lateStores }], guard := some (6, true) }) (v := ?_) (by kernel_rfl) rfl (by rfl) (by kernel_rfl) (by kernel_rfl) (fun _ _ _ h => h) ?_ (by assumption) ?_
          rotate_left
          · (intro w hSw; (try dsimp only at hSw); go_simp; try with_reducible rfl)
          try simp only [Act.put, List.setIfInBounds_toArray, List.set_cons_zero, List.set_cons_succ]
          refine held_take 9 (oi := { dst := some 40, op := Op.pick (Operand.tmp 37) (Operand.tmp 39) (Operand.const (Value.bool false)), type := 4, pos := "head.go:67", after := #[{ on := 6, ground := Ground.data }, { on := 8, ground := Ground.data }, { on := 10, ground := Ground.gcOnly Departure.lateStores }], guard := none }) (v := ?_) (by kernel_rfl) rfl (by rfl) (by kernel_rfl) (by kernel_rfl) (fun _ _ _ h => h) ?_ (by assumption) ?_
          rotate_left
          · (intro w hSw; (try dsimp only at hSw); go_simp; try with_reducible rfl)
          try simp only [Act.put, List.setIfInBounds_toArray, List.set_cons_zero, List.set_cons_succ]
          refine wpAnyH_ready (rs := [10]) (by kernel_rfl) (by simp) ?_
          refine AllReadyH.cons (o := { dst := none, op := Op.store 58 (Operand.tmp 2) (Operand.tmp 31), type := 0, pos := "head.go:67", after := #[{ on := 0, ground := Ground.data }, { on := 6, ground := Ground.chain }, { on := 0, ground := Ground.phase }, { on := 1, ground := Ground.textOnly Departure.lateStores }, { on := 2, ground := Ground.textOnly Departure.lateStores }, { on := 3, ground := Ground.textOnly Departure.lateStores }, { on := 4, ground := Ground.textOnly Departure.lateStoresUnsure }, { on := 5, ground := Ground.textOnly Departure.lateStores }, { on := 6, ground := Ground.textOnly Departure.lateStores }, { on := 7, ground := Ground.textOnly Departure.lateStores }, { on := 8, ground := Ground.textOnly Departure.lateStores }, { on := 9, ground := Ground.textOnly Departure.lateStores }], guard := none }) rfl (fun K hK => ?_) ?_
          · have z0 := (unhide RR).cell 0 (.string ⟨#[]⟩) rfl
            have z1 := (unhide RR).cell 1 (.string ⟨#[]⟩) rfl
            have z2 := (unhide RR).cell 2 (.string ⟨#[]⟩) rfl
            have z3 := (unhide RR).cell 3 (.string ⟨#[]⟩) rfl
            have z4 := (unhide RR).cell 4 (.slice none 0 0) rfl
            have f0 := (unhide RR).froz 0
            have f1 := (unhide RR).froz 1
            have f2 := (unhide RR).froz 2
            have f3 := (unhide RR).froz 3
            have f4 := (unhide RR).froz 4
            have R9 := hide ((unhide RR).set5 (.string sm) (.string sp) (.string sq) (.string sh) (.slice none 0 0))
            go_simp
            clear z0 z1 z2 z3 z4 f0 f1 f2 f3 f4
            refine hK.out _ _ ?_ (fun hHeld => ?_)
            · try dsimp only
              all_goals trivial
            clear hK K
            try simp only [Act.put, List.setIfInBounds_toArray, List.set_cons_zero, List.set_cons_succ]
            refine held_take 11 (oi := { dst := some 3, op := Op.assign (Operand.tmp 40), type := 4, pos := "head.go:67", after := #[{ on := 9, ground := Ground.data }, { on := 10, ground := Ground.chain }, { on := 0, ground := Ground.phase }, { on := 1, ground := Ground.phase }, { on := 2, ground := Ground.phase }, { on := 3, ground := Ground.phase }, { on := 4, ground := Ground.phase }, { on := 5, ground := Ground.phase }, { on := 6, ground := Ground.phase }, { on := 7, ground := Ground.phase }, { on := 8, ground := Ground.phase }, { on := 9, ground := Ground.phase }, { on := 10, ground := Ground.phase }], guard := none }) (v := ?_) (by kernel_rfl) rfl (by rfl) (by kernel_rfl) (by kernel_rfl) (fun _ _ _ h => h) ?_ (by assumption) ?_
            rotate_left
            · (intro w hSw; (try dsimp only at hSw); go_simp; try with_reducible rfl)
            try simp only [Act.put, List.setIfInBounds_toArray, List.set_cons_zero, List.set_cons_succ]
            refine wpAnyH_done (by kernel_rfl) ?_ _
            go_wp2_with fail
            have g0 := (unhide R9).cell 0 (.string sm) rfl
            have g1 := (unhide R9).cell 1 (.string sp) rfl
            have g2 := (unhide R9).cell 2 (.string sq) rfl
            have g3 := (unhide R9).cell 3 (.string sh) rfl
            have g4 := (unhide R9).cell 4 (.slice none 0 0) rfl
            refine bodyPost_ret (v := .tuple #[.agg #[.string sm, .string sp, .string sq, .string sh, .slice none 0 0], .bool kv]) ?_ rfl ⟨⟨_, rfl, unhide T2 hk⟩, (unhide R9).bel⟩
            rw [results_cell_tmp rfl]
            go_simp
            try rfl
          exact AllReadyH.nil
        exact AllReadyH.nil
      refine AllReadyH.cons (o := { dst := some 35, op := Op.call { callee := Callee.value (Operand.func 79), args := #[Operand.tmp 34], argTypes := #[9] }, type := 4, pos := "head.go:67", after := #[{ on := 3, ground := Ground.data }, { on := 2, ground := Ground.chain }, { on := 2, ground := Ground.guard }], guard := some (2, true) }) rfl (fun K hK => ?_) ?_
      · go_simp
        go_at_call 79
        refine (unhide KC _).mono ?_
        rintro e W5 ⟨rfl, hb5⟩
        rw [hk]
        have RR := hide ((unhide RR).later hb5)
        have NN := hide (later_block hb5 (unhide NN))
        go_wp2_with fail
        refine hK.out _ _ ?_ (fun hHeld => ?_)
        · try dsimp only
          all_goals trivial
        clear hK K
        try simp only [Act.put, List.setIfInBounds_toArray, List.set_cons_zero, List.set_cons_succ]
        refine held_take 5 (oi := { dst := some 36, op := Op.pick (Operand.tmp 33) (Operand.tmp 35) (Operand.const (Value.bool false)), type := 4, pos := "head.go:67", after := #[{ on := 2, ground := Ground.data }, { on := 4, ground := Ground.data }], guard := none }) (v := ?_) (by kernel_rfl) rfl (by rfl) (by kernel_rfl) (by kernel_rfl) (fun _ _ _ h => h) ?_ (by assumption) ?_
        rotate_left
        · (intro w hSw; (try dsimp only at hSw); go_simp; try with_reducible rfl)
        try simp only [Act.put, List.setIfInBounds_toArray, List.set_cons_zero, List.set_cons_succ]
        refine held_take 6 (oi := { dst := some 37, op := Op.move (Operand.tmp 36), type := 4, pos := "head.go:67", after := #[{ on := 5, ground := Ground.data }, { on := 4, ground := Ground.chain }], guard := none }) (v := ?_) (by kernel_rfl) rfl (by rfl) (by kernel_rfl) (by kernel_rfl) (fun _ _ _ h => h) ?_ (by assumption) ?_
        rotate_left
        · (intro w hSw; (try dsimp only at hSw); go_simp; try with_reducible rfl)
        try simp only [Act.put, List.setIfInBounds_toArray, List.set_cons_zero, List.set_cons_succ]
        refine held_take 7 (oi := { dst := some 38, op := Op.move (Operand.tmp 8), type := 9, pos := "head.go:67", after := #[{ on := 6, ground := Ground.guard }, { on := 10, ground := Ground.gcOnly Departure.lateStores }], guard := some (6, true) }) (v := ?_) (by kernel_rfl) rfl (by rfl) (by kernel_rfl) (by kernel_rfl) (fun _ _ _ h => h) ?_ (by assumption) ?_
        rotate_left
        · (intro w hSw; (try dsimp only at hSw); go_simp; try with_reducible rfl)
        try simp only [Act.put, List.setIfInBounds_toArray, List.set_cons_zero, List.set_cons_succ]
        refine held_take 8 (oi := { dst := some 39, op := Op.binOp BinOp.eql 9 (Operand.tmp 38) (Operand.const (Value.string { data := #[72, 84, 84, 80, 47, 49, 46, 49] })) 9, type := 4, pos := "head.go:67", after := #[{ on := 7, ground := Ground.data }, { on := 6, ground := Ground.guard }, { on := 10, ground := Ground.gcOnly Departure.lateStores }], guard := some (6, true) }) (v := ?_) (by kernel_rfl) rfl (by rfl) (by kernel_rfl) (by kernel_rfl) (fun _ _ _ h => h) ?_ (by assumption) ?_
        rotate_left
        · (intro w hSw; (try dsimp only at hSw); go_simp; try with_reducible rfl)
        try simp only [Act.put, List.setIfInBounds_toArray, List.set_cons_zero, List.set_cons_succ]
        refine held_take 9 (oi := { dst := some 40, op := Op.pick (Operand.tmp 37) (Operand.tmp 39) (Operand.const (Value.bool false)), type := 4, pos := "head.go:67", after := #[{ on := 6, ground := Ground.data }, { on := 8, ground := Ground.data }, { on := 10, ground := Ground.gcOnly Departure.lateStores }], guard := none }) (v := ?_) (by kernel_rfl) rfl (by rfl) (by kernel_rfl) (by kernel_rfl) (fun _ _ _ h => h) ?_ (by assumption) ?_
        rotate_left
        · (intro w hSw; (try dsimp only at hSw); go_simp; try with_reducible rfl)
        try simp only [Act.put, List.setIfInBounds_toArray, List.set_cons_zero, List.set_cons_succ]
        refine wpAnyH_ready (rs := [0]) (by kernel_rfl) (by simp) ?_
        refine AllReadyH.cons (o := { dst := some 31, op := Op.load 58 (Operand.tmp 10), type := 58, pos := "head.go:67", after := #[], guard := none }) rfl (fun K hK => ?_) ?_
        · first
            | (have hV : W5 = W5 := rfl
               clear hV
               have y0 := box_cell (unhide NN) 0 (.string sm) rfl
               have y1 := box_cell (unhide NN) 1 (.string sp) rfl
               have y2 := box_cell (unhide NN) 2 (.string sq) rfl
               have y3 := box_cell (unhide NN) 3 (.string sh) rfl
               have y4 := box_cell (unhide NN) 4 (.slice none 0 0) rfl
               go_simp
               clear y0 y1 y2 y3 y4)
            | (skip
               have y0 := box_cell (unhide N4) 0 (.string sm) rfl
               have y1 := box_cell (unhide N4) 1 (.string sp) rfl
               have y2 := box_cell (unhide N4) 2 (.string sq) rfl
               have y3 := box_cell (unhide N4) 3 (.string sh) rfl
               have y4 := box_cell (unhide N4) 4 (.slice none 0 0) rfl
               go_simp
               clear y0 y1 y2 y3 y4)
          refine hK.out _ _ ?_ (fun hHeld => ?_)
          · try dsimp only
            all_goals trivial
          clear hK K
          try simp only [Act.put, List.setIfInBounds_toArray, List.set_cons_zero, List.set_cons_succ]
          refine wpAnyH_ready (rs := [10]) (by kernel_rfl) (by simp) ?_
          refine AllReadyH.cons (o := { dst := none, op := Op.store 58 (Operand.tmp 2) (Operand.tmp 31), type := 0, pos := "head.go:67", after := #[{ on := 0, ground := Ground.data }, { on := 6, ground := Ground.chain }, { on := 0, ground := Ground.phase }, { on := 1, ground := Ground.textOnly Departure.lateStores }, { on := 2, ground := Ground.textOnly Departure.lateStores }, { on := 3, ground := Ground.textOnly Departure.lateStores }, { on := 4, ground := Ground.textOnly Departure.lateStoresUnsure }, { on := 5, ground := Ground.textOnly Departure.lateStores }, { on := 6, ground := Ground.textOnly Departure.lateStores }, { on := 7, ground := Ground.textOnly Departure.lateStores }, { on := 8, ground := Ground.textOnly Departure.lateStores }, { on := 9, ground := Ground.textOnly Departure.lateStores }], guard := none }) rfl (fun K hK => ?_) ?_
          · have z0 := (unhide RR).cell 0 (.string ⟨#[]⟩) rfl
            have z1 := (unhide RR).cell 1 (.string ⟨#[]⟩) rfl
            have z2 := (unhide RR).cell 2 (.string ⟨#[]⟩) rfl
            have z3 := (unhide RR).cell 3 (.string ⟨#[]⟩) rfl
            have z4 := (unhide RR).cell 4 (.slice none 0 0) rfl
            have f0 := (unhide RR).froz 0
            have f1 := (unhide RR).froz 1
            have f2 := (unhide RR).froz 2
            have f3 := (unhide RR).froz 3
            have f4 := (unhide RR).froz 4
            have R9 := hide ((unhide RR).set5 (.string sm) (.string sp) (.string sq) (.string sh) (.slice none 0 0))
            go_simp
            clear z0 z1 z2 z3 z4 f0 f1 f2 f3 f4
            refine hK.out _ _ ?_ (fun hHeld => ?_)
            · try dsimp only
              all_goals trivial
            clear hK K
            try simp only [Act.put, List.setIfInBounds_toArray, List.set_cons_zero, List.set_cons_succ]
            refine held_take 11 (oi := { dst := some 3, op := Op.assign (Operand.tmp 40), type := 4, pos := "head.go:67", after := #[{ on := 9, ground := Ground.data }, { on := 10, ground := Ground.chain }, { on := 0, ground := Ground.phase }, { on := 1, ground := Ground.phase }, { on := 2, ground := Ground.phase }, { on := 3, ground := Ground.phase }, { on := 4, ground := Ground.phase }, { on := 5, ground := Ground.phase }, { on := 6, ground := Ground.phase }, { on := 7, ground := Ground.phase }, { on := 8, ground := Ground.phase }, { on := 9, ground := Ground.phase }, { on := 10, ground := Ground.phase }], guard := none }) (v := ?_) (by kernel_rfl) rfl (by rfl) (by kernel_rfl) (by kernel_rfl) (fun _ _ _ h => h) ?_ (by assumption) ?_
            rotate_left
            · (intro w hSw; (try dsimp only at hSw); go_simp; try with_reducible rfl)
            try simp only [Act.put, List.setIfInBounds_toArray, List.set_cons_zero, List.set_cons_succ]
            refine wpAnyH_done (by kernel_rfl) ?_ _
            go_wp2_with fail
            have g0 := (unhide R9).cell 0 (.string sm) rfl
            have g1 := (unhide R9).cell 1 (.string sp) rfl
            have g2 := (unhide R9).cell 2 (.string sq) rfl
            have g3 := (unhide R9).cell 3 (.string sh) rfl
            have g4 := (unhide R9).cell 4 (.slice none 0 0) rfl
            refine bodyPost_ret (v := .tuple #[.agg #[.string sm, .string sp, .string sq, .string sh, .slice none 0 0], .bool kv]) ?_ rfl ⟨⟨_, rfl, unhide T2 hk⟩, (unhide R9).bel⟩
            rw [results_cell_tmp rfl]
            go_simp
            try rfl
          exact AllReadyH.nil
        exact AllReadyH.nil
      exact AllReadyH.nil
end Go.Proofs.YtcmiappiocfbiaaGreatDoor
