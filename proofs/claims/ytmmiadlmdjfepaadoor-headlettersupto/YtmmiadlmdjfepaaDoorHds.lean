/- Heads: which may be written (mayBe). -/
import Derived.Test.YtmmiadlmdjfepaaDoorHdp
import Derived.Test.YtmmiadlmdjfepaaDoorHdn
import Derived.Test.YtmmiadlmdjfepaaDoorHld
import Derived.BigQuiet
namespace Go.Proofs.YtmmiadlmdjfepaaDoor
open Go.ChangeShapes Go.WideShapes Go.ChangeAt Go.RowKit
set_option linter.unusedVariables false

theorem low_len (l : Tx) : (lowL l).length = l.length := by simp [lowL, Lib.toLowerA]
theorem str_eqL (a b : Tx) : ((stS a).toList == (stS b).toList) = (a == b) := by rw [str_eq, stS_list, stS_list]
theorem hosts_beq (l : List Fd) (x : Tx) : (hostOfL l == some x) = (hostsOk l && (x == (hostL (seenV l)).getD [])) := by
  cases h : hostsOk l with
  | true =>
    rw [hostOf_yes h, Bool.true_and, Bool.eq_iff_iff, beq_iff_eq, beq_iff_eq, Option.some.injEq, eq_comm]
  | false => rw [hostOf_no h]; rfl
set_option maxRecDepth 20000 in
set_option maxHeartbeats 16000000 in
theorem mayBe_calls (h : Hd) (sp : Option Addr) (c : Nat) (w : World) (hF : FdsAt w sp h.fields) (hl : HdLe 140737488355328 h) :
    Calls Tryd.prog 29 #[hdVal h sp c] w fun e w' => e = .returned (.bool (mayBeL h)) ∧ Below w.heap.size w w' := by
  have HE := hide (show mayBeL h = (isTokenL h.method && isPathL h.path && isQueryL h.query && h.fields.all fdOk && (hostsOk h.fields && (h.host == (hostL (seenV h.fields)).getD []))) by unfold mayBeL; rw [hosts_beq])
  unfold hdVal
  have TC := hide (fun W => isToken_calls (stS h.method) (by rw [stS_size]; have := hl.m; simp only [maxLen]; omega) W)
  have PC := hide (fun W => isPath_calls (stS h.path) (by rw [stS_size]; have := hl.p; simp only [maxLen]; omega) W)
  have QC := hide (fun W => isQuery_calls (stS h.query) (by rw [stS_size]; have := hl.q; simp only [maxLen]; omega) W)
  rw [stS_list] at TC PC QC
  have B1 := hide (show Below w.heap.size w (w.alloc (.cells #[.string (stS h.method), .string (stS h.path), .string (stS h.query), .string (stS h.host), .slice sp h.fields.length c] 25)) from (Below.refl _ _).alloc (Nat.le_refl _) _)
  have X1 := hide (heap_new w (.cells #[.string (stS h.method), .string (stS h.path), .string (stS h.query), .string (stS h.host), .slice sp h.fields.length c] 25))
  have k0 := box_cell (unhide X1) 0 _ rfl
  have k1 := box_cell (unhide X1) 1 _ rfl
  have k2 := box_cell (unhide X1) 2 _ rfl
  cases hm : isTokenL h.method with
  | false =>
    have HE2 := hide (show mayBeL h = false by rw [unhide HE, hm]; rfl)
    rw [hm] at TC
    clear hm hF hl
    go_enter Tryd.func29, Tryd.ntmps29
    go_wp2_with (go_at_call 47; refine (unhide TC _).mono ?_; rintro e W1 ⟨rfl, hb1⟩; have H1 := chain B1 hb1)
    go_ret
    exact ⟨by rw [unhide HE2]; rfl, unhide H1⟩
  | true =>
  rw [hm] at TC
  cases hp : isPathL h.path with
  | false =>
    have HE2 := hide (show mayBeL h = false by rw [unhide HE, hm, hp]; rfl)
    rw [hp] at PC
    clear hm hp hF hl
    go_enter Tryd.func29, Tryd.ntmps29
    go_wp2_with (first
      | (go_at_call 47; refine (unhide TC _).mono ?_; rintro e W1 ⟨rfl, hb1⟩; have H1 := chain B1 hb1; have k1b := cell_later hb1 k1)
      | (go_at_call 48; refine (unhide PC _).mono ?_; rintro e W2 ⟨rfl, hb2⟩; have H2 := chain H1 hb2))
    go_ret
    exact ⟨by rw [unhide HE2]; rfl, unhide H2⟩
  | true =>
  rw [hp] at PC
  cases hq : isQueryL h.query with
  | false =>
    have HE2 := hide (show mayBeL h = false by rw [unhide HE, hm, hp, hq]; rfl)
    rw [hq] at QC
    clear hm hp hq hF hl
    go_enter Tryd.func29, Tryd.ntmps29
    go_wp2_with (first
      | (go_at_call 47; refine (unhide TC _).mono ?_; rintro e W1 ⟨rfl, hb1⟩; have H1 := chain B1 hb1; have k1b := cell_later hb1 k1; have k2b := cell_later hb1 k2)
      | (go_at_call 48; refine (unhide PC _).mono ?_; rintro e W2 ⟨rfl, hb2⟩; have H2 := chain H1 hb2; have k2c := cell_later hb2 k2b)
      | (go_at_call 49; refine (unhide QC _).mono ?_; rintro e W3 ⟨rfl, hb3⟩; have H3 := chain H2 hb3))
    go_ret
    exact ⟨by rw [unhide HE2]; rfl, unhide H3⟩
  | true =>
  rw [hq] at QC
  have HE2 := hide (show mayBeL h = (h.fields.all fdOk && (hostsOk h.fields && (h.host == (hostL (seenV h.fields)).getD []))) by rw [unhide HE, hm, hp, hq]; rfl)
  have hlf := hl.f.1
  have HZ := hide hl.f.2
  have hlx := hl.x
  have HF := hide hF
  clear hm hp hq hF hl HE
  obtain ⟨m, p, q, x, fs⟩ := h
  simp only at *
  have k3 := box_cell (unhide X1) 3 _ rfl
  have k4 := box_cell (unhide X1) 4 _ rfl
  generalize hn : fs.length = n at *
  have HN := hide hn
  clear hn
  go_enter Tryd.func29, Tryd.ntmps29
  go_wp2_with (first
      | (go_at_call 47; refine (unhide TC _).mono ?_; rintro e W1 ⟨rfl, hb1⟩; have H1 := chain B1 hb1; have k1b := cell_later hb1 k1; have k2b := cell_later hb1 k2; have k3b := cell_later hb1 k3; have k4b := cell_later hb1 k4)
      | (go_at_call 48; refine (unhide PC _).mono ?_; rintro e W2 ⟨rfl, hb2⟩; have H2 := chain H1 hb2; have k2c := cell_later hb2 k2b; have k3c := cell_later hb2 k3b; have k4c := cell_later hb2 k4b)
      | (go_at_call 49; refine (unhide QC _).mono ?_; rintro e W3 ⟨rfl, hb3⟩; have H3 := chain H2 hb3; have k3d := cell_later hb3 k3c; have k4d := cell_later hb3 k4c))
  clear k0 k1 k2 k3 k4 k1b k2b k3b k4b k2c k3c k4c hb1 hb2 hb3 TC PC QC X1 B1
  go_loopw [26] (fun i wr => ∃ j : Nat, j ≤ n ∧ i = .int .i64 (j : Int) ∧ Hid ((fs.take j).all fdOk = true) ∧ Hid (Below W3.heap.size W3 wr)) (fun i _ => n - (intOf i).toNat)
  case atStart => exact ⟨0, by omega, rfl, hide rfl, hide (Below.refl _ _)⟩
  case round =>
    obtain ⟨j, hj, rfl, HA, B⟩ := hrel
    have F := hide ((unhide H3).trans ((unhide B).mono (unhide H3).size))
    by_cases hjn : j < n
    · have y0 : (0 : Int) ≤ (j : Int) := by omega
      have y1 : (j : Int) < (n : Int) := by omega
      have hjl : j < fs.length := by rw [unhide HN]; exact hjn
      obtain ⟨g1, o1, rfl, q0, q1⟩ := unhide HF j hjl
      have p0 := cell_later (unhide F) q0
      have p1 := cell_later (unhide F) q1
      have hz := unhide HZ _ (List.getElem_mem hjl)
      have HS := hide (show (fs.take (j + 1)).all fdOk = fdOk fs[j] by
        rw [List.take_add_one, List.getElem?_eq_getElem hjl, Option.toList_some, List.all_append, unhide HA]
        simp)
      have HW := hide (show fdOk fs[j] = false → fs.all fdOk = false from fun e => by
        rw [List.all_eq_false]
        exact ⟨fs[j], List.getElem_mem hjl, by rw [e]; decide⟩)
      have hw : IntKind.i64.wrap ((j : Int) + 1) = ((j + 1 : Nat) : Int) := by rw [IntKind.wrap_i64]; omega
      clear q0 q1
      generalize fs[j] = t at *
      obtain ⟨tn, tv⟩ := t
      simp only at p0 p1 hz
      obtain ⟨hz1, hz2⟩ := hz
      have e0 := box_cell (heap_new wr (.cells #[.string (stS tn), .string (stS tv)] 43)) 0 _ rfl
      have e1 := box_cell (heap_new wr (.cells #[.string (stS tn), .string (stS tv)] 43)) 1 _ rfl
      have BW := hide ((unhide B).alloc (unhide B).size (.cells #[.string (stS tn), .string (stS tv)] 43))
      have TC := hide (fun W => isToken_calls (stS tn) (by rw [stS_size]; simp only [maxLen]; omega) W)
      have VC := hide (fun W => isValue_calls (stS tv) (by rw [stS_size]; simp only [maxLen]; omega) W)
      rw [stS_list] at TC VC
      have hsn : (stS tn).size ≤ 9223372036854775807 := by rw [stS_size]; omega
      have HK := hide (show fdOk ⟨tn, tv⟩ = (isTokenL tn && (tn == lowL tn) && isValueL tv) from rfl)
      cases ht : isTokenL tn with
      | false =>
        have HO := hide (show mayBeL ⟨m, p, q, x, fs⟩ = false by rw [unhide HE2, unhide HW (by rw [unhide HK, ht]; rfl)]; rfl)
        rw [ht] at TC
        clear ht HE2
        go_wp2_with fail
        generalize wr.alloc (.cells #[.string (stS tn), .string (stS tv)] 43) = WA at *
        refine wp_region_held_drew (S := fun w' => w'.cell? ⟨wr.heap.size, 0, none⟩ = some (.string (stS tn))) (by kernel_rfl) ?_ (fun hHeld => ?_)
        · try dsimp only
          first | (have hV : B7 = B7 := rfl; clear hV; exact cell_later (unhide B7) e0) | exact e0
        refine held_take 0 (oi := { dst := some 30, op := Op.fieldAddr 43 (Operand.tmp 4) 0, type := 0, pos := "write.go:29", after := #[], guard := none }) (v := ?_) (by kernel_rfl) rfl (by rfl) (by kernel_rfl) (by kernel_rfl) (fun _ _ _ h => h) ?_ (by assumption) ?_
        rotate_left
        · (intro w hSw; (try dsimp only at hSw); go_simp; try with_reducible rfl)
        try simp only [Act.put, List.setIfInBounds_toArray, List.set_cons_zero, List.set_cons_succ]
        refine held_take 1 (oi := { dst := some 31, op := Op.load 9 (Operand.tmp 30), type := 9, pos := "write.go:29", after := #[{ on := 0, ground := Ground.data }], guard := none }) (v := ?_) (by kernel_rfl) rfl (by rfl) (by kernel_rfl) (by kernel_rfl) (fun _ _ _ h => h) ?_ (by assumption) ?_
        rotate_left
        · (intro w hSw; (try dsimp only at hSw); go_simp; try with_reducible rfl)
        try simp only [Act.put, List.setIfInBounds_toArray, List.set_cons_zero, List.set_cons_succ]
        refine held_one 2 (oi := { dst := some 32, op := Op.call { callee := Callee.value (Operand.func 47), args := #[Operand.tmp 31], argTypes := #[9] }, type := 4, pos := "write.go:29", after := #[{ on := 1, ground := Ground.data }], guard := none }) (by kernel_rfl) rfl (fun K hK => ?_)
        go_simp
        first
          | (go_at_call 47
             refine (unhide TC _).mono ?_
             rintro e V1 ⟨rfl, v1⟩
             have B7 := hide (show Below WA.heap.size WA V1 from ⟨v1.os, v1.tape, v1.output, v1.size, v1.block⟩)
             clear v1)
        go_wp2_with fail
        refine hK.out _ _ ?_ (fun hHeld => ?_)
        · try dsimp only
          first | (have hV : B7 = B7 := rfl; clear hV; exact cell_later (unhide B7) e0) | exact e0
        clear hK K
        try simp only [Act.put, List.setIfInBounds_toArray, List.set_cons_zero, List.set_cons_succ]
        refine held_take 3 (oi := { dst := some 33, op := Op.unOp UnOp.not 4 (Operand.tmp 32), type := 4, pos := "write.go:29", after := #[{ on := 2, ground := Ground.data }], guard := none }) (v := ?_) (by kernel_rfl) rfl (by rfl) (by kernel_rfl) (by kernel_rfl) (fun _ _ _ h => h) ?_ (by assumption) ?_
        rotate_left
        · (intro w hSw; (try dsimp only at hSw); go_simp; try with_reducible rfl)
        try simp only [Act.put, List.setIfInBounds_toArray, List.set_cons_zero, List.set_cons_succ]
        refine held_take 4 (oi := { dst := some 34, op := Op.move (Operand.tmp 33), type := 4, pos := "write.go:29", after := #[{ on := 3, ground := Ground.data }, { on := 2, ground := Ground.chain }], guard := none }) (v := ?_) (by kernel_rfl) rfl (by rfl) (by kernel_rfl) (by kernel_rfl) (fun _ _ _ h => h) ?_ (by assumption) ?_
        rotate_left
        · (intro w hSw; (try dsimp only at hSw); go_simp; try with_reducible rfl)
        try simp only [Act.put, List.setIfInBounds_toArray, List.set_cons_zero, List.set_cons_succ]
        refine held_skip 5 (oi := { dst := some 35, op := Op.fieldAddr 43 (Operand.tmp 4) 0, type := 0, pos := "write.go:29", after := #[{ on := 4, ground := Ground.guard }], guard := some (4, false) }) (by kernel_rfl) rfl (by rfl) (by kernel_rfl) (by kernel_rfl) (fun _ _ _ h => h) (by assumption) ?_
        try simp only [Act.put, List.setIfInBounds_toArray, List.set_cons_zero, List.set_cons_succ]
        refine held_skip 6 (oi := { dst := some 36, op := Op.load 9 (Operand.tmp 35), type := 9, pos := "write.go:29", after := #[{ on := 5, ground := Ground.data }, { on := 4, ground := Ground.guard }], guard := some (4, false) }) (by kernel_rfl) rfl (by rfl) (by kernel_rfl) (by kernel_rfl) (fun _ _ _ h => h) (by assumption) ?_
        try simp only [Act.put, List.setIfInBounds_toArray, List.set_cons_zero, List.set_cons_succ]
        refine held_skip 7 (oi := { dst := some 37, op := Op.fieldAddr 43 (Operand.tmp 4) 0, type := 0, pos := "write.go:29", after := #[{ on := 4, ground := Ground.guard }], guard := some (4, false) }) (by kernel_rfl) rfl (by rfl) (by kernel_rfl) (by kernel_rfl) (fun _ _ _ h => h) (by assumption) ?_
        try simp only [Act.put, List.setIfInBounds_toArray, List.set_cons_zero, List.set_cons_succ]
        refine held_skip 8 (oi := { dst := some 38, op := Op.load 9 (Operand.tmp 37), type := 9, pos := "write.go:29", after := #[{ on := 7, ground := Ground.data }, { on := 4, ground := Ground.guard }], guard := some (4, false) }) (by kernel_rfl) rfl (by rfl) (by kernel_rfl) (by kernel_rfl) (fun _ _ _ h => h) (by assumption) ?_
        try simp only [Act.put, List.setIfInBounds_toArray, List.set_cons_zero, List.set_cons_succ]
        refine held_none 9 (oi := { dst := some 39, op := Op.call { callee := Callee.value (Operand.func 36), args := #[Operand.tmp 38], argTypes := #[9] }, type := 9, pos := "write.go:29", after := #[{ on := 8, ground := Ground.data }, { on := 4, ground := Ground.chain }, { on := 4, ground := Ground.guard }], guard := some (4, false) }) (by kernel_rfl) rfl (by rfl) (by assumption) ?_
        try simp only [Act.put, List.setIfInBounds_toArray, List.set_cons_zero, List.set_cons_succ]
        refine held_skip 10 (oi := { dst := some 40, op := Op.binOp BinOp.neq 9 (Operand.tmp 36) (Operand.tmp 39) 9, type := 4, pos := "write.go:29", after := #[{ on := 6, ground := Ground.data }, { on := 9, ground := Ground.data }, { on := 4, ground := Ground.guard }], guard := some (4, false) }) (by kernel_rfl) rfl (by rfl) (by kernel_rfl) (by kernel_rfl) (fun _ _ _ h => h) (by assumption) ?_
        try simp only [Act.put, List.setIfInBounds_toArray, List.set_cons_zero, List.set_cons_succ]
        refine held_take 11 (oi := { dst := some 41, op := Op.pick (Operand.tmp 34) (Operand.const (Value.bool true)) (Operand.tmp 40), type := 4, pos := "write.go:29", after := #[{ on := 4, ground := Ground.data }, { on := 10, ground := Ground.data }], guard := none }) (v := ?_) (by kernel_rfl) rfl (by rfl) (by kernel_rfl) (by kernel_rfl) (fun _ _ _ h => h) ?_ (by assumption) ?_
        rotate_left
        · (intro w hSw; (try dsimp only at hSw); go_simp; try with_reducible rfl)
        try simp only [Act.put, List.setIfInBounds_toArray, List.set_cons_zero, List.set_cons_succ]
        refine held_take 12 (oi := { dst := some 42, op := Op.move (Operand.tmp 41), type := 4, pos := "write.go:29", after := #[{ on := 11, ground := Ground.data }, { on := 9, ground := Ground.chain }], guard := none }) (v := ?_) (by kernel_rfl) rfl (by rfl) (by kernel_rfl) (by kernel_rfl) (fun _ _ _ h => h) ?_ (by assumption) ?_
        rotate_left
        · (intro w hSw; (try dsimp only at hSw); go_simp; try with_reducible rfl)
        try simp only [Act.put, List.setIfInBounds_toArray, List.set_cons_zero, List.set_cons_succ]
        refine held_skip 13 (oi := { dst := some 43, op := Op.fieldAddr 43 (Operand.tmp 4) 1, type := 0, pos := "write.go:29", after := #[{ on := 12, ground := Ground.guard }], guard := some (12, false) }) (by kernel_rfl) rfl (by rfl) (by kernel_rfl) (by kernel_rfl) (fun _ _ _ h => h) (by assumption) ?_
        try simp only [Act.put, List.setIfInBounds_toArray, List.set_cons_zero, List.set_cons_succ]
        refine held_skip 14 (oi := { dst := some 44, op := Op.load 9 (Operand.tmp 43), type := 9, pos := "write.go:29", after := #[{ on := 13, ground := Ground.data }, { on := 12, ground := Ground.guard }], guard := some (12, false) }) (by kernel_rfl) rfl (by rfl) (by kernel_rfl) (by kernel_rfl) (fun _ _ _ h => h) (by assumption) ?_
        try simp only [Act.put, List.setIfInBounds_toArray, List.set_cons_zero, List.set_cons_succ]
        refine held_none 15 (oi := { dst := some 45, op := Op.call { callee := Callee.value (Operand.func 50), args := #[Operand.tmp 44], argTypes := #[9] }, type := 4, pos := "write.go:29", after := #[{ on := 14, ground := Ground.data }, { on := 12, ground := Ground.chain }, { on := 12, ground := Ground.guard }], guard := some (12, false) }) (by kernel_rfl) rfl (by rfl) (by assumption) ?_
        try simp only [Act.put, List.setIfInBounds_toArray, List.set_cons_zero, List.set_cons_succ]
        refine held_skip 16 (oi := { dst := some 46, op := Op.unOp UnOp.not 4 (Operand.tmp 45), type := 4, pos := "write.go:29", after := #[{ on := 15, ground := Ground.data }, { on := 12, ground := Ground.guard }], guard := some (12, false) }) (by kernel_rfl) rfl (by rfl) (by kernel_rfl) (by kernel_rfl) (fun _ _ _ h => h) (by assumption) ?_
        try simp only [Act.put, List.setIfInBounds_toArray, List.set_cons_zero, List.set_cons_succ]
        refine held_take 17 (oi := { dst := some 47, op := Op.pick (Operand.tmp 42) (Operand.const (Value.bool true)) (Operand.tmp 46), type := 4, pos := "write.go:29", after := #[{ on := 12, ground := Ground.data }, { on := 16, ground := Ground.data }], guard := none }) (v := ?_) (by kernel_rfl) rfl (by rfl) (by kernel_rfl) (by kernel_rfl) (fun _ _ _ h => h) ?_ (by assumption) ?_
        rotate_left
        · (intro w hSw; (try dsimp only at hSw); go_simp; try with_reducible rfl)
        try simp only [Act.put, List.setIfInBounds_toArray, List.set_cons_zero, List.set_cons_succ]
        refine wpAnyH_done (by kernel_rfl) ?_ _
        go_wp2
        go_ret
        exact ⟨by rw [unhide HO]; rfl, (unhide H3).trans (((unhide BW).trans ((unhide B7).mono (unhide BW).size)).mono (unhide H3).size)⟩
      | true =>
        rw [ht] at TC
        have LC := hide (fun W => lower_calls (stS tn) (by rw [stS_size]; omega) (token_ascii ht) W)
        rw [stS_list] at LC
        have hsl : (stS (lowL tn)).size ≤ 9223372036854775807 := by rw [stS_size, low_len]; omega
        have hq := str_eqL tn (lowL tn)
        cases hlo : (tn == lowL tn) with
        | false =>
          have HO := hide (show mayBeL ⟨m, p, q, x, fs⟩ = false by rw [unhide HE2, unhide HW (by rw [unhide HK, ht, hlo]; rfl)]; rfl)
          rw [hlo] at hq
          clear ht hlo HE2
          go_wp2_with fail
          generalize wr.alloc (.cells #[.string (stS tn), .string (stS tv)] 43) = WA at *
          generalize stS (lowL tn) = sl at *
          generalize stS tn = sn at *
          refine wp_region_held_drew (S := fun w' => w'.cell? ⟨wr.heap.size, 0, none⟩ = some (.string sn)) (by kernel_rfl) ?_ (fun hHeld => ?_)
          · try dsimp only
            first | (have hV : B8 = B8 := rfl; clear hV; exact cell_later (unhide B8) e0) | (have hV : B7 = B7 := rfl; clear hV; exact cell_later (unhide B7) e0) | exact e0
          refine held_take 0 (oi := { dst := some 30, op := Op.fieldAddr 43 (Operand.tmp 4) 0, type := 0, pos := "write.go:29", after := #[], guard := none }) (v := ?_) (by kernel_rfl) rfl (by rfl) (by kernel_rfl) (by kernel_rfl) (fun _ _ _ h => h) ?_ (by assumption) ?_
          rotate_left
          · (intro w hSw; (try dsimp only at hSw); go_simp; try with_reducible rfl)
          try simp only [Act.put, List.setIfInBounds_toArray, List.set_cons_zero, List.set_cons_succ]
          refine held_take 1 (oi := { dst := some 31, op := Op.load 9 (Operand.tmp 30), type := 9, pos := "write.go:29", after := #[{ on := 0, ground := Ground.data }], guard := none }) (v := ?_) (by kernel_rfl) rfl (by rfl) (by kernel_rfl) (by kernel_rfl) (fun _ _ _ h => h) ?_ (by assumption) ?_
          rotate_left
          · (intro w hSw; (try dsimp only at hSw); go_simp; try with_reducible rfl)
          try simp only [Act.put, List.setIfInBounds_toArray, List.set_cons_zero, List.set_cons_succ]
          refine held_one 2 (oi := { dst := some 32, op := Op.call { callee := Callee.value (Operand.func 47), args := #[Operand.tmp 31], argTypes := #[9] }, type := 4, pos := "write.go:29", after := #[{ on := 1, ground := Ground.data }], guard := none }) (by kernel_rfl) rfl (fun K hK => ?_)
          go_simp
          first
            | (go_at_call 47
               refine (unhide TC _).mono ?_
               rintro e V1 ⟨rfl, v1⟩
               have B7 := hide (show Below WA.heap.size WA V1 from ⟨v1.os, v1.tape, v1.output, v1.size, v1.block⟩)
               clear v1)
            | (go_at_call 36
               refine (unhide LC _).mono ?_
               rintro e V2 ⟨rfl, v2⟩
               have B8 := chain B7 v2
               clear v2)
          go_wp2_with fail
          refine hK.out _ _ ?_ (fun hHeld => ?_)
          · try dsimp only
            first | (have hV : B8 = B8 := rfl; clear hV; exact cell_later (unhide B8) e0) | (have hV : B7 = B7 := rfl; clear hV; exact cell_later (unhide B7) e0) | exact e0
          clear hK K
          try simp only [Act.put, List.setIfInBounds_toArray, List.set_cons_zero, List.set_cons_succ]
          refine held_take 3 (oi := { dst := some 33, op := Op.unOp UnOp.not 4 (Operand.tmp 32), type := 4, pos := "write.go:29", after := #[{ on := 2, ground := Ground.data }], guard := none }) (v := ?_) (by kernel_rfl) rfl (by rfl) (by kernel_rfl) (by kernel_rfl) (fun _ _ _ h => h) ?_ (by assumption) ?_
          rotate_left
          · (intro w hSw; (try dsimp only at hSw); go_simp; try with_reducible rfl)
          try simp only [Act.put, List.setIfInBounds_toArray, List.set_cons_zero, List.set_cons_succ]
          refine held_take 4 (oi := { dst := some 34, op := Op.move (Operand.tmp 33), type := 4, pos := "write.go:29", after := #[{ on := 3, ground := Ground.data }, { on := 2, ground := Ground.chain }], guard := none }) (v := ?_) (by kernel_rfl) rfl (by rfl) (by kernel_rfl) (by kernel_rfl) (fun _ _ _ h => h) ?_ (by assumption) ?_
          rotate_left
          · (intro w hSw; (try dsimp only at hSw); go_simp; try with_reducible rfl)
          try simp only [Act.put, List.setIfInBounds_toArray, List.set_cons_zero, List.set_cons_succ]
          refine held_take 5 (oi := { dst := some 35, op := Op.fieldAddr 43 (Operand.tmp 4) 0, type := 0, pos := "write.go:29", after := #[{ on := 4, ground := Ground.guard }], guard := some (4, false) }) (v := ?_) (by kernel_rfl) rfl (by rfl) (by kernel_rfl) (by kernel_rfl) (fun _ _ _ h => h) ?_ (by assumption) ?_
          rotate_left
          · (intro w hSw; (try dsimp only at hSw); go_simp; try with_reducible rfl)
          try simp only [Act.put, List.setIfInBounds_toArray, List.set_cons_zero, List.set_cons_succ]
          refine held_take 6 (oi := { dst := some 36, op := Op.load 9 (Operand.tmp 35), type := 9, pos := "write.go:29", after := #[{ on := 5, ground := Ground.data }, { on := 4, ground := Ground.guard }], guard := some (4, false) }) (v := ?_) (by kernel_rfl) rfl (by rfl) (by kernel_rfl) (by kernel_rfl) (fun _ _ _ h => h) ?_ (by assumption) ?_
          rotate_left
          · (intro w hSw; (try dsimp only at hSw); go_simp; try with_reducible rfl)
          try simp only [Act.put, List.setIfInBounds_toArray, List.set_cons_zero, List.set_cons_succ]
          refine held_take 7 (oi := { dst := some 37, op := Op.fieldAddr 43 (Operand.tmp 4) 0, type := 0, pos := "write.go:29", after := #[{ on := 4, ground := Ground.guard }], guard := some (4, false) }) (v := ?_) (by kernel_rfl) rfl (by rfl) (by kernel_rfl) (by kernel_rfl) (fun _ _ _ h => h) ?_ (by assumption) ?_
          rotate_left
          · (intro w hSw; (try dsimp only at hSw); go_simp; try with_reducible rfl)
          try simp only [Act.put, List.setIfInBounds_toArray, List.set_cons_zero, List.set_cons_succ]
          refine held_take 8 (oi := { dst := some 38, op := Op.load 9 (Operand.tmp 37), type := 9, pos := "write.go:29", after := #[{ on := 7, ground := Ground.data }, { on := 4, ground := Ground.guard }], guard := some (4, false) }) (v := ?_) (by kernel_rfl) rfl (by rfl) (by kernel_rfl) (by kernel_rfl) (fun _ _ _ h => h) ?_ (by assumption) ?_
          rotate_left
          · (intro w hSw; (try dsimp only at hSw); go_simp; try with_reducible rfl)
          try simp only [Act.put, List.setIfInBounds_toArray, List.set_cons_zero, List.set_cons_succ]
          refine held_one 9 (oi := { dst := some 39, op := Op.call { callee := Callee.value (Operand.func 36), args := #[Operand.tmp 38], argTypes := #[9] }, type := 9, pos := "write.go:29", after := #[{ on := 8, ground := Ground.data }, { on := 4, ground := Ground.chain }, { on := 4, ground := Ground.guard }], guard := some (4, false) }) (by kernel_rfl) rfl (fun K hK => ?_)
          go_simp
          first
            | (go_at_call 47
               refine (unhide TC _).mono ?_
               rintro e V1 ⟨rfl, v1⟩
               have B7 := hide (show Below WA.heap.size WA V1 from ⟨v1.os, v1.tape, v1.output, v1.size, v1.block⟩)
               clear v1)
            | (go_at_call 36
               refine (unhide LC _).mono ?_
               rintro e V2 ⟨rfl, v2⟩
               have B8 := chain B7 v2
               clear v2)
          go_wp2_with fail
          refine hK.out _ _ ?_ (fun hHeld => ?_)
          · try dsimp only
            first | (have hV : B8 = B8 := rfl; clear hV; exact cell_later (unhide B8) e0) | (have hV : B7 = B7 := rfl; clear hV; exact cell_later (unhide B7) e0) | exact e0
          clear hK K
          try simp only [Act.put, List.setIfInBounds_toArray, List.set_cons_zero, List.set_cons_succ]
          refine held_take 10 (oi := { dst := some 40, op := Op.binOp BinOp.neq 9 (Operand.tmp 36) (Operand.tmp 39) 9, type := 4, pos := "write.go:29", after := #[{ on := 6, ground := Ground.data }, { on := 9, ground := Ground.data }, { on := 4, ground := Ground.guard }], guard := some (4, false) }) (v := ?_) (by kernel_rfl) rfl (by rfl) (by kernel_rfl) (by kernel_rfl) (fun _ _ _ h => h) ?_ (by assumption) ?_
          rotate_left
          · (intro w hSw; (try dsimp only at hSw); go_simp; try with_reducible rfl)
          try simp only [Act.put, List.setIfInBounds_toArray, List.set_cons_zero, List.set_cons_succ]
          refine held_take 11 (oi := { dst := some 41, op := Op.pick (Operand.tmp 34) (Operand.const (Value.bool true)) (Operand.tmp 40), type := 4, pos := "write.go:29", after := #[{ on := 4, ground := Ground.data }, { on := 10, ground := Ground.data }], guard := none }) (v := ?_) (by kernel_rfl) rfl (by rfl) (by kernel_rfl) (by kernel_rfl) (fun _ _ _ h => h) ?_ (by assumption) ?_
          rotate_left
          · (intro w hSw; (try dsimp only at hSw); go_simp; try with_reducible rfl)
          try simp only [Act.put, List.setIfInBounds_toArray, List.set_cons_zero, List.set_cons_succ]
          refine held_take 12 (oi := { dst := some 42, op := Op.move (Operand.tmp 41), type := 4, pos := "write.go:29", after := #[{ on := 11, ground := Ground.data }, { on := 9, ground := Ground.chain }], guard := none }) (v := ?_) (by kernel_rfl) rfl (by rfl) (by kernel_rfl) (by kernel_rfl) (fun _ _ _ h => h) ?_ (by assumption) ?_
          rotate_left
          · (intro w hSw; (try dsimp only at hSw); go_simp; try with_reducible rfl)
          try simp only [Act.put, List.setIfInBounds_toArray, List.set_cons_zero, List.set_cons_succ]
          refine held_skip 13 (oi := { dst := some 43, op := Op.fieldAddr 43 (Operand.tmp 4) 1, type := 0, pos := "write.go:29", after := #[{ on := 12, ground := Ground.guard }], guard := some (12, false) }) (by kernel_rfl) rfl (by rfl) (by kernel_rfl) (by kernel_rfl) (fun _ _ _ h => h) (by assumption) ?_
          try simp only [Act.put, List.setIfInBounds_toArray, List.set_cons_zero, List.set_cons_succ]
          refine held_skip 14 (oi := { dst := some 44, op := Op.load 9 (Operand.tmp 43), type := 9, pos := "write.go:29", after := #[{ on := 13, ground := Ground.data }, { on := 12, ground := Ground.guard }], guard := some (12, false) }) (by kernel_rfl) rfl (by rfl) (by kernel_rfl) (by kernel_rfl) (fun _ _ _ h => h) (by assumption) ?_
          try simp only [Act.put, List.setIfInBounds_toArray, List.set_cons_zero, List.set_cons_succ]
          refine held_none 15 (oi := { dst := some 45, op := Op.call { callee := Callee.value (Operand.func 50), args := #[Operand.tmp 44], argTypes := #[9] }, type := 4, pos := "write.go:29", after := #[{ on := 14, ground := Ground.data }, { on := 12, ground := Ground.chain }, { on := 12, ground := Ground.guard }], guard := some (12, false) }) (by kernel_rfl) rfl (by rfl) (by assumption) ?_
          try simp only [Act.put, List.setIfInBounds_toArray, List.set_cons_zero, List.set_cons_succ]
          refine held_skip 16 (oi := { dst := some 46, op := Op.unOp UnOp.not 4 (Operand.tmp 45), type := 4, pos := "write.go:29", after := #[{ on := 15, ground := Ground.data }, { on := 12, ground := Ground.guard }], guard := some (12, false) }) (by kernel_rfl) rfl (by rfl) (by kernel_rfl) (by kernel_rfl) (fun _ _ _ h => h) (by assumption) ?_
          try simp only [Act.put, List.setIfInBounds_toArray, List.set_cons_zero, List.set_cons_succ]
          refine held_take 17 (oi := { dst := some 47, op := Op.pick (Operand.tmp 42) (Operand.const (Value.bool true)) (Operand.tmp 46), type := 4, pos := "write.go:29", after := #[{ on := 12, ground := Ground.data }, { on := 16, ground := Ground.data }], guard := none }) (v := ?_) (by kernel_rfl) rfl (by rfl) (by kernel_rfl) (by kernel_rfl) (fun _ _ _ h => h) ?_ (by assumption) ?_
          rotate_left
          · (intro w hSw; (try dsimp only at hSw); go_simp; try with_reducible rfl)
          try simp only [Act.put, List.setIfInBounds_toArray, List.set_cons_zero, List.set_cons_succ]
          refine wpAnyH_done (by kernel_rfl) ?_ _
          go_wp2
          go_ret
          exact ⟨by rw [unhide HO]; rfl, (unhide H3).trans (((unhide BW).trans ((unhide B8).mono (unhide BW).size)).mono (unhide H3).size)⟩
        | true =>
          rw [hlo] at hq
          cases hv : isValueL tv with
          | false =>
            have HO := hide (show mayBeL ⟨m, p, q, x, fs⟩ = false by rw [unhide HE2, unhide HW (by rw [unhide HK, ht, hlo, hv]; rfl)]; rfl)
            rw [hv] at VC
            clear ht hlo hv HE2
            go_wp2_with fail
            generalize wr.alloc (.cells #[.string (stS tn), .string (stS tv)] 43) = WA at *
            generalize stS (lowL tn) = sl at *
            generalize stS tn = sn at *
            generalize stS tv = sv at *
            refine wp_region_held_drew (S := fun w' => w'.cell? ⟨wr.heap.size, 0, none⟩ = some (.string sn) ∧ w'.cell? ⟨wr.heap.size, 1, none⟩ = some (.string sv)) (by kernel_rfl) ?_ (fun hHeld => ?_)
            · try dsimp only
              first | (have hV : B9 = B9 := rfl; clear hV; exact ⟨cell_later (unhide B9) e0, cell_later (unhide B9) e1⟩) | (have hV : B8 = B8 := rfl; clear hV; exact ⟨cell_later (unhide B8) e0, cell_later (unhide B8) e1⟩) | (have hV : B7 = B7 := rfl; clear hV; exact ⟨cell_later (unhide B7) e0, cell_later (unhide B7) e1⟩) | exact ⟨e0, e1⟩
            refine held_take 0 (oi := { dst := some 30, op := Op.fieldAddr 43 (Operand.tmp 4) 0, type := 0, pos := "write.go:29", after := #[], guard := none }) (v := ?_) (by kernel_rfl) rfl (by rfl) (by kernel_rfl) (by kernel_rfl) (fun _ _ _ h => h) ?_ (by assumption) ?_
            rotate_left
            · (intro w hSw; (try dsimp only at hSw); go_simp; try with_reducible rfl)
            try simp only [Act.put, List.setIfInBounds_toArray, List.set_cons_zero, List.set_cons_succ]
            refine held_take 1 (oi := { dst := some 31, op := Op.load 9 (Operand.tmp 30), type := 9, pos := "write.go:29", after := #[{ on := 0, ground := Ground.data }], guard := none }) (v := ?_) (by kernel_rfl) rfl (by rfl) (by kernel_rfl) (by kernel_rfl) (fun _ _ _ h => h) ?_ (by assumption) ?_
            rotate_left
            · (intro w hSw; (try dsimp only at hSw); go_simp; try with_reducible rfl)
            try simp only [Act.put, List.setIfInBounds_toArray, List.set_cons_zero, List.set_cons_succ]
            refine held_one 2 (oi := { dst := some 32, op := Op.call { callee := Callee.value (Operand.func 47), args := #[Operand.tmp 31], argTypes := #[9] }, type := 4, pos := "write.go:29", after := #[{ on := 1, ground := Ground.data }], guard := none }) (by kernel_rfl) rfl (fun K hK => ?_)
            go_simp
            first
              | (go_at_call 47
                 refine (unhide TC _).mono ?_
                 rintro e V1 ⟨rfl, v1⟩
                 have B7 := hide (show Below WA.heap.size WA V1 from ⟨v1.os, v1.tape, v1.output, v1.size, v1.block⟩)
                 clear v1)
              | (go_at_call 36
                 refine (unhide LC _).mono ?_
                 rintro e V2 ⟨rfl, v2⟩
                 have B8 := chain B7 v2
                 clear v2)
              | (go_at_call 50
                 refine (unhide VC _).mono ?_
                 rintro e V3 ⟨rfl, v3⟩
                 have B9 := chain B8 v3
                 clear v3)
            go_wp2_with fail
            refine hK.out _ _ ?_ (fun hHeld => ?_)
            · try dsimp only
              first | (have hV : B9 = B9 := rfl; clear hV; exact ⟨cell_later (unhide B9) e0, cell_later (unhide B9) e1⟩) | (have hV : B8 = B8 := rfl; clear hV; exact ⟨cell_later (unhide B8) e0, cell_later (unhide B8) e1⟩) | (have hV : B7 = B7 := rfl; clear hV; exact ⟨cell_later (unhide B7) e0, cell_later (unhide B7) e1⟩) | exact ⟨e0, e1⟩
            clear hK K
            try simp only [Act.put, List.setIfInBounds_toArray, List.set_cons_zero, List.set_cons_succ]
            refine held_take 3 (oi := { dst := some 33, op := Op.unOp UnOp.not 4 (Operand.tmp 32), type := 4, pos := "write.go:29", after := #[{ on := 2, ground := Ground.data }], guard := none }) (v := ?_) (by kernel_rfl) rfl (by rfl) (by kernel_rfl) (by kernel_rfl) (fun _ _ _ h => h) ?_ (by assumption) ?_
            rotate_left
            · (intro w hSw; (try dsimp only at hSw); go_simp; try with_reducible rfl)
            try simp only [Act.put, List.setIfInBounds_toArray, List.set_cons_zero, List.set_cons_succ]
            refine held_take 4 (oi := { dst := some 34, op := Op.move (Operand.tmp 33), type := 4, pos := "write.go:29", after := #[{ on := 3, ground := Ground.data }, { on := 2, ground := Ground.chain }], guard := none }) (v := ?_) (by kernel_rfl) rfl (by rfl) (by kernel_rfl) (by kernel_rfl) (fun _ _ _ h => h) ?_ (by assumption) ?_
            rotate_left
            · (intro w hSw; (try dsimp only at hSw); go_simp; try with_reducible rfl)
            try simp only [Act.put, List.setIfInBounds_toArray, List.set_cons_zero, List.set_cons_succ]
            refine held_take 5 (oi := { dst := some 35, op := Op.fieldAddr 43 (Operand.tmp 4) 0, type := 0, pos := "write.go:29", after := #[{ on := 4, ground := Ground.guard }], guard := some (4, false) }) (v := ?_) (by kernel_rfl) rfl (by rfl) (by kernel_rfl) (by kernel_rfl) (fun _ _ _ h => h) ?_ (by assumption) ?_
            rotate_left
            · (intro w hSw; (try dsimp only at hSw); go_simp; try with_reducible rfl)
            try simp only [Act.put, List.setIfInBounds_toArray, List.set_cons_zero, List.set_cons_succ]
            refine held_take 6 (oi := { dst := some 36, op := Op.load 9 (Operand.tmp 35), type := 9, pos := "write.go:29", after := #[{ on := 5, ground := Ground.data }, { on := 4, ground := Ground.guard }], guard := some (4, false) }) (v := ?_) (by kernel_rfl) rfl (by rfl) (by kernel_rfl) (by kernel_rfl) (fun _ _ _ h => h) ?_ (by assumption) ?_
            rotate_left
            · (intro w hSw; (try dsimp only at hSw); go_simp; try with_reducible rfl)
            try simp only [Act.put, List.setIfInBounds_toArray, List.set_cons_zero, List.set_cons_succ]
            refine held_take 7 (oi := { dst := some 37, op := Op.fieldAddr 43 (Operand.tmp 4) 0, type := 0, pos := "write.go:29", after := #[{ on := 4, ground := Ground.guard }], guard := some (4, false) }) (v := ?_) (by kernel_rfl) rfl (by rfl) (by kernel_rfl) (by kernel_rfl) (fun _ _ _ h => h) ?_ (by assumption) ?_
            rotate_left
            · (intro w hSw; (try dsimp only at hSw); go_simp; try with_reducible rfl)
            try simp only [Act.put, List.setIfInBounds_toArray, List.set_cons_zero, List.set_cons_succ]
            refine held_take 8 (oi := { dst := some 38, op := Op.load 9 (Operand.tmp 37), type := 9, pos := "write.go:29", after := #[{ on := 7, ground := Ground.data }, { on := 4, ground := Ground.guard }], guard := some (4, false) }) (v := ?_) (by kernel_rfl) rfl (by rfl) (by kernel_rfl) (by kernel_rfl) (fun _ _ _ h => h) ?_ (by assumption) ?_
            rotate_left
            · (intro w hSw; (try dsimp only at hSw); go_simp; try with_reducible rfl)
            try simp only [Act.put, List.setIfInBounds_toArray, List.set_cons_zero, List.set_cons_succ]
            refine held_one 9 (oi := { dst := some 39, op := Op.call { callee := Callee.value (Operand.func 36), args := #[Operand.tmp 38], argTypes := #[9] }, type := 9, pos := "write.go:29", after := #[{ on := 8, ground := Ground.data }, { on := 4, ground := Ground.chain }, { on := 4, ground := Ground.guard }], guard := some (4, false) }) (by kernel_rfl) rfl (fun K hK => ?_)
            go_simp
            first
              | (go_at_call 47
                 refine (unhide TC _).mono ?_
                 rintro e V1 ⟨rfl, v1⟩
                 have B7 := hide (show Below WA.heap.size WA V1 from ⟨v1.os, v1.tape, v1.output, v1.size, v1.block⟩)
                 clear v1)
              | (go_at_call 36
                 refine (unhide LC _).mono ?_
                 rintro e V2 ⟨rfl, v2⟩
                 have B8 := chain B7 v2
                 clear v2)
              | (go_at_call 50
                 refine (unhide VC _).mono ?_
                 rintro e V3 ⟨rfl, v3⟩
                 have B9 := chain B8 v3
                 clear v3)
            go_wp2_with fail
            refine hK.out _ _ ?_ (fun hHeld => ?_)
            · try dsimp only
              first | (have hV : B9 = B9 := rfl; clear hV; exact ⟨cell_later (unhide B9) e0, cell_later (unhide B9) e1⟩) | (have hV : B8 = B8 := rfl; clear hV; exact ⟨cell_later (unhide B8) e0, cell_later (unhide B8) e1⟩) | (have hV : B7 = B7 := rfl; clear hV; exact ⟨cell_later (unhide B7) e0, cell_later (unhide B7) e1⟩) | exact ⟨e0, e1⟩
            clear hK K
            try simp only [Act.put, List.setIfInBounds_toArray, List.set_cons_zero, List.set_cons_succ]
            refine held_take 10 (oi := { dst := some 40, op := Op.binOp BinOp.neq 9 (Operand.tmp 36) (Operand.tmp 39) 9, type := 4, pos := "write.go:29", after := #[{ on := 6, ground := Ground.data }, { on := 9, ground := Ground.data }, { on := 4, ground := Ground.guard }], guard := some (4, false) }) (v := ?_) (by kernel_rfl) rfl (by rfl) (by kernel_rfl) (by kernel_rfl) (fun _ _ _ h => h) ?_ (by assumption) ?_
            rotate_left
            · (intro w hSw; (try dsimp only at hSw); go_simp; try with_reducible rfl)
            try simp only [Act.put, List.setIfInBounds_toArray, List.set_cons_zero, List.set_cons_succ]
            refine held_take 11 (oi := { dst := some 41, op := Op.pick (Operand.tmp 34) (Operand.const (Value.bool true)) (Operand.tmp 40), type := 4, pos := "write.go:29", after := #[{ on := 4, ground := Ground.data }, { on := 10, ground := Ground.data }], guard := none }) (v := ?_) (by kernel_rfl) rfl (by rfl) (by kernel_rfl) (by kernel_rfl) (fun _ _ _ h => h) ?_ (by assumption) ?_
            rotate_left
            · (intro w hSw; (try dsimp only at hSw); go_simp; try with_reducible rfl)
            try simp only [Act.put, List.setIfInBounds_toArray, List.set_cons_zero, List.set_cons_succ]
            refine held_take 12 (oi := { dst := some 42, op := Op.move (Operand.tmp 41), type := 4, pos := "write.go:29", after := #[{ on := 11, ground := Ground.data }, { on := 9, ground := Ground.chain }], guard := none }) (v := ?_) (by kernel_rfl) rfl (by rfl) (by kernel_rfl) (by kernel_rfl) (fun _ _ _ h => h) ?_ (by assumption) ?_
            rotate_left
            · (intro w hSw; (try dsimp only at hSw); go_simp; try with_reducible rfl)
            try simp only [Act.put, List.setIfInBounds_toArray, List.set_cons_zero, List.set_cons_succ]
            refine held_take 13 (oi := { dst := some 43, op := Op.fieldAddr 43 (Operand.tmp 4) 1, type := 0, pos := "write.go:29", after := #[{ on := 12, ground := Ground.guard }], guard := some (12, false) }) (v := ?_) (by kernel_rfl) rfl (by rfl) (by kernel_rfl) (by kernel_rfl) (fun _ _ _ h => h) ?_ (by assumption) ?_
            rotate_left
            · (intro w hSw; (try dsimp only at hSw); go_simp; try with_reducible rfl)
            try simp only [Act.put, List.setIfInBounds_toArray, List.set_cons_zero, List.set_cons_succ]
            refine held_take 14 (oi := { dst := some 44, op := Op.load 9 (Operand.tmp 43), type := 9, pos := "write.go:29", after := #[{ on := 13, ground := Ground.data }, { on := 12, ground := Ground.guard }], guard := some (12, false) }) (v := ?_) (by kernel_rfl) rfl (by rfl) (by kernel_rfl) (by kernel_rfl) (fun _ _ _ h => h) ?_ (by assumption) ?_
            rotate_left
            · (intro w hSw; (try dsimp only at hSw); go_simp; try with_reducible rfl)
            try simp only [Act.put, List.setIfInBounds_toArray, List.set_cons_zero, List.set_cons_succ]
            refine held_one 15 (oi := { dst := some 45, op := Op.call { callee := Callee.value (Operand.func 50), args := #[Operand.tmp 44], argTypes := #[9] }, type := 4, pos := "write.go:29", after := #[{ on := 14, ground := Ground.data }, { on := 12, ground := Ground.chain }, { on := 12, ground := Ground.guard }], guard := some (12, false) }) (by kernel_rfl) rfl (fun K hK => ?_)
            go_simp
            first
              | (go_at_call 47
                 refine (unhide TC _).mono ?_
                 rintro e V1 ⟨rfl, v1⟩
                 have B7 := hide (show Below WA.heap.size WA V1 from ⟨v1.os, v1.tape, v1.output, v1.size, v1.block⟩)
                 clear v1)
              | (go_at_call 36
                 refine (unhide LC _).mono ?_
                 rintro e V2 ⟨rfl, v2⟩
                 have B8 := chain B7 v2
                 clear v2)
              | (go_at_call 50
                 refine (unhide VC _).mono ?_
                 rintro e V3 ⟨rfl, v3⟩
                 have B9 := chain B8 v3
                 clear v3)
            go_wp2_with fail
            refine hK.out _ _ ?_ (fun hHeld => ?_)
            · try dsimp only
              first | (have hV : B9 = B9 := rfl; clear hV; exact ⟨cell_later (unhide B9) e0, cell_later (unhide B9) e1⟩) | (have hV : B8 = B8 := rfl; clear hV; exact ⟨cell_later (unhide B8) e0, cell_later (unhide B8) e1⟩) | (have hV : B7 = B7 := rfl; clear hV; exact ⟨cell_later (unhide B7) e0, cell_later (unhide B7) e1⟩) | exact ⟨e0, e1⟩
            clear hK K
            try simp only [Act.put, List.setIfInBounds_toArray, List.set_cons_zero, List.set_cons_succ]
            refine held_take 16 (oi := { dst := some 46, op := Op.unOp UnOp.not 4 (Operand.tmp 45), type := 4, pos := "write.go:29", after := #[{ on := 15, ground := Ground.data }, { on := 12, ground := Ground.guard }], guard := some (12, false) }) (v := ?_) (by kernel_rfl) rfl (by rfl) (by kernel_rfl) (by kernel_rfl) (fun _ _ _ h => h) ?_ (by assumption) ?_
            rotate_left
            · (intro w hSw; (try dsimp only at hSw); go_simp; try with_reducible rfl)
            try simp only [Act.put, List.setIfInBounds_toArray, List.set_cons_zero, List.set_cons_succ]
            refine held_take 17 (oi := { dst := some 47, op := Op.pick (Operand.tmp 42) (Operand.const (Value.bool true)) (Operand.tmp 46), type := 4, pos := "write.go:29", after := #[{ on := 12, ground := Ground.data }, { on := 16, ground := Ground.data }], guard := none }) (v := ?_) (by kernel_rfl) rfl (by rfl) (by kernel_rfl) (by kernel_rfl) (fun _ _ _ h => h) ?_ (by assumption) ?_
            rotate_left
            · (intro w hSw; (try dsimp only at hSw); go_simp; try with_reducible rfl)
            try simp only [Act.put, List.setIfInBounds_toArray, List.set_cons_zero, List.set_cons_succ]
            refine wpAnyH_done (by kernel_rfl) ?_ _
            go_wp2
            go_ret
            exact ⟨by rw [unhide HO]; rfl, (unhide H3).trans (((unhide BW).trans ((unhide B9).mono (unhide BW).size)).mono (unhide H3).size)⟩
          | true =>
            have HO := hide (show (fs.take (j + 1)).all fdOk = true by rw [unhide HS, unhide HK, ht, hlo, hv]; rfl)
            rw [hv] at VC
            clear ht hlo hv
            go_wp2_with fail
            generalize wr.alloc (.cells #[.string (stS tn), .string (stS tv)] 43) = WA at *
            generalize stS (lowL tn) = sl at *
            generalize stS tn = sn at *
            generalize stS tv = sv at *
            refine wp_region_held_drew (S := fun w' => w'.cell? ⟨wr.heap.size, 0, none⟩ = some (.string sn) ∧ w'.cell? ⟨wr.heap.size, 1, none⟩ = some (.string sv)) (by kernel_rfl) ?_ (fun hHeld => ?_)
            · try dsimp only
              first | (have hV : B9 = B9 := rfl; clear hV; exact ⟨cell_later (unhide B9) e0, cell_later (unhide B9) e1⟩) | (have hV : B8 = B8 := rfl; clear hV; exact ⟨cell_later (unhide B8) e0, cell_later (unhide B8) e1⟩) | (have hV : B7 = B7 := rfl; clear hV; exact ⟨cell_later (unhide B7) e0, cell_later (unhide B7) e1⟩) | exact ⟨e0, e1⟩
            refine held_take 0 (oi := { dst := some 30, op := Op.fieldAddr 43 (Operand.tmp 4) 0, type := 0, pos := "write.go:29", after := #[], guard := none }) (v := ?_) (by kernel_rfl) rfl (by rfl) (by kernel_rfl) (by kernel_rfl) (fun _ _ _ h => h) ?_ (by assumption) ?_
            rotate_left
            · (intro w hSw; (try dsimp only at hSw); go_simp; try with_reducible rfl)
            try simp only [Act.put, List.setIfInBounds_toArray, List.set_cons_zero, List.set_cons_succ]
            refine held_take 1 (oi := { dst := some 31, op := Op.load 9 (Operand.tmp 30), type := 9, pos := "write.go:29", after := #[{ on := 0, ground := Ground.data }], guard := none }) (v := ?_) (by kernel_rfl) rfl (by rfl) (by kernel_rfl) (by kernel_rfl) (fun _ _ _ h => h) ?_ (by assumption) ?_
            rotate_left
            · (intro w hSw; (try dsimp only at hSw); go_simp; try with_reducible rfl)
            try simp only [Act.put, List.setIfInBounds_toArray, List.set_cons_zero, List.set_cons_succ]
            refine held_one 2 (oi := { dst := some 32, op := Op.call { callee := Callee.value (Operand.func 47), args := #[Operand.tmp 31], argTypes := #[9] }, type := 4, pos := "write.go:29", after := #[{ on := 1, ground := Ground.data }], guard := none }) (by kernel_rfl) rfl (fun K hK => ?_)
            go_simp
            first
              | (go_at_call 47
                 refine (unhide TC _).mono ?_
                 rintro e V1 ⟨rfl, v1⟩
                 have B7 := hide (show Below WA.heap.size WA V1 from ⟨v1.os, v1.tape, v1.output, v1.size, v1.block⟩)
                 clear v1)
              | (go_at_call 36
                 refine (unhide LC _).mono ?_
                 rintro e V2 ⟨rfl, v2⟩
                 have B8 := chain B7 v2
                 clear v2)
              | (go_at_call 50
                 refine (unhide VC _).mono ?_
                 rintro e V3 ⟨rfl, v3⟩
                 have B9 := chain B8 v3
                 clear v3)
            go_wp2_with fail
            refine hK.out _ _ ?_ (fun hHeld => ?_)
            · try dsimp only
              first | (have hV : B9 = B9 := rfl; clear hV; exact ⟨cell_later (unhide B9) e0, cell_later (unhide B9) e1⟩) | (have hV : B8 = B8 := rfl; clear hV; exact ⟨cell_later (unhide B8) e0, cell_later (unhide B8) e1⟩) | (have hV : B7 = B7 := rfl; clear hV; exact ⟨cell_later (unhide B7) e0, cell_later (unhide B7) e1⟩) | exact ⟨e0, e1⟩
            clear hK K
            try simp only [Act.put, List.setIfInBounds_toArray, List.set_cons_zero, List.set_cons_succ]
            refine held_take 3 (oi := { dst := some 33, op := Op.unOp UnOp.not 4 (Operand.tmp 32), type := 4, pos := "write.go:29", after := #[{ on := 2, ground := Ground.data }], guard := none }) (v := ?_) (by kernel_rfl) rfl (by rfl) (by kernel_rfl) (by kernel_rfl) (fun _ _ _ h => h) ?_ (by assumption) ?_
            rotate_left
            · (intro w hSw; (try dsimp only at hSw); go_simp; try with_reducible rfl)
            try simp only [Act.put, List.setIfInBounds_toArray, List.set_cons_zero, List.set_cons_succ]
            refine held_take 4 (oi := { dst := some 34, op := Op.move (Operand.tmp 33), type := 4, pos := "write.go:29", after := #[{ on := 3, ground := Ground.data }, { on := 2, ground := Ground.chain }], guard := none }) (v := ?_) (by kernel_rfl) rfl (by rfl) (by kernel_rfl) (by kernel_rfl) (fun _ _ _ h => h) ?_ (by assumption) ?_
            rotate_left
            · (intro w hSw; (try dsimp only at hSw); go_simp; try with_reducible rfl)
            try simp only [Act.put, List.setIfInBounds_toArray, List.set_cons_zero, List.set_cons_succ]
            refine held_take 5 (oi := { dst := some 35, op := Op.fieldAddr 43 (Operand.tmp 4) 0, type := 0, pos := "write.go:29", after := #[{ on := 4, ground := Ground.guard }], guard := some (4, false) }) (v := ?_) (by kernel_rfl) rfl (by rfl) (by kernel_rfl) (by kernel_rfl) (fun _ _ _ h => h) ?_ (by assumption) ?_
            rotate_left
            · (intro w hSw; (try dsimp only at hSw); go_simp; try with_reducible rfl)
            try simp only [Act.put, List.setIfInBounds_toArray, List.set_cons_zero, List.set_cons_succ]
            refine held_take 6 (oi := { dst := some 36, op := Op.load 9 (Operand.tmp 35), type := 9, pos := "write.go:29", after := #[{ on := 5, ground := Ground.data }, { on := 4, ground := Ground.guard }], guard := some (4, false) }) (v := ?_) (by kernel_rfl) rfl (by rfl) (by kernel_rfl) (by kernel_rfl) (fun _ _ _ h => h) ?_ (by assumption) ?_
            rotate_left
            · (intro w hSw; (try dsimp only at hSw); go_simp; try with_reducible rfl)
            try simp only [Act.put, List.setIfInBounds_toArray, List.set_cons_zero, List.set_cons_succ]
            refine held_take 7 (oi := { dst := some 37, op := Op.fieldAddr 43 (Operand.tmp 4) 0, type := 0, pos := "write.go:29", after := #[{ on := 4, ground := Ground.guard }], guard := some (4, false) }) (v := ?_) (by kernel_rfl) rfl (by rfl) (by kernel_rfl) (by kernel_rfl) (fun _ _ _ h => h) ?_ (by assumption) ?_
            rotate_left
            · (intro w hSw; (try dsimp only at hSw); go_simp; try with_reducible rfl)
            try simp only [Act.put, List.setIfInBounds_toArray, List.set_cons_zero, List.set_cons_succ]
            refine held_take 8 (oi := { dst := some 38, op := Op.load 9 (Operand.tmp 37), type := 9, pos := "write.go:29", after := #[{ on := 7, ground := Ground.data }, { on := 4, ground := Ground.guard }], guard := some (4, false) }) (v := ?_) (by kernel_rfl) rfl (by rfl) (by kernel_rfl) (by kernel_rfl) (fun _ _ _ h => h) ?_ (by assumption) ?_
            rotate_left
            · (intro w hSw; (try dsimp only at hSw); go_simp; try with_reducible rfl)
            try simp only [Act.put, List.setIfInBounds_toArray, List.set_cons_zero, List.set_cons_succ]
            refine held_one 9 (oi := { dst := some 39, op := Op.call { callee := Callee.value (Operand.func 36), args := #[Operand.tmp 38], argTypes := #[9] }, type := 9, pos := "write.go:29", after := #[{ on := 8, ground := Ground.data }, { on := 4, ground := Ground.chain }, { on := 4, ground := Ground.guard }], guard := some (4, false) }) (by kernel_rfl) rfl (fun K hK => ?_)
            go_simp
            first
              | (go_at_call 47
                 refine (unhide TC _).mono ?_
                 rintro e V1 ⟨rfl, v1⟩
                 have B7 := hide (show Below WA.heap.size WA V1 from ⟨v1.os, v1.tape, v1.output, v1.size, v1.block⟩)
                 clear v1)
              | (go_at_call 36
                 refine (unhide LC _).mono ?_
                 rintro e V2 ⟨rfl, v2⟩
                 have B8 := chain B7 v2
                 clear v2)
              | (go_at_call 50
                 refine (unhide VC _).mono ?_
                 rintro e V3 ⟨rfl, v3⟩
                 have B9 := chain B8 v3
                 clear v3)
            go_wp2_with fail
            refine hK.out _ _ ?_ (fun hHeld => ?_)
            · try dsimp only
              first | (have hV : B9 = B9 := rfl; clear hV; exact ⟨cell_later (unhide B9) e0, cell_later (unhide B9) e1⟩) | (have hV : B8 = B8 := rfl; clear hV; exact ⟨cell_later (unhide B8) e0, cell_later (unhide B8) e1⟩) | (have hV : B7 = B7 := rfl; clear hV; exact ⟨cell_later (unhide B7) e0, cell_later (unhide B7) e1⟩) | exact ⟨e0, e1⟩
            clear hK K
            try simp only [Act.put, List.setIfInBounds_toArray, List.set_cons_zero, List.set_cons_succ]
            refine held_take 10 (oi := { dst := some 40, op := Op.binOp BinOp.neq 9 (Operand.tmp 36) (Operand.tmp 39) 9, type := 4, pos := "write.go:29", after := #[{ on := 6, ground := Ground.data }, { on := 9, ground := Ground.data }, { on := 4, ground := Ground.guard }], guard := some (4, false) }) (v := ?_) (by kernel_rfl) rfl (by rfl) (by kernel_rfl) (by kernel_rfl) (fun _ _ _ h => h) ?_ (by assumption) ?_
            rotate_left
            · (intro w hSw; (try dsimp only at hSw); go_simp; try with_reducible rfl)
            try simp only [Act.put, List.setIfInBounds_toArray, List.set_cons_zero, List.set_cons_succ]
            refine held_take 11 (oi := { dst := some 41, op := Op.pick (Operand.tmp 34) (Operand.const (Value.bool true)) (Operand.tmp 40), type := 4, pos := "write.go:29", after := #[{ on := 4, ground := Ground.data }, { on := 10, ground := Ground.data }], guard := none }) (v := ?_) (by kernel_rfl) rfl (by rfl) (by kernel_rfl) (by kernel_rfl) (fun _ _ _ h => h) ?_ (by assumption) ?_
            rotate_left
            · (intro w hSw; (try dsimp only at hSw); go_simp; try with_reducible rfl)
            try simp only [Act.put, List.setIfInBounds_toArray, List.set_cons_zero, List.set_cons_succ]
            refine held_take 12 (oi := { dst := some 42, op := Op.move (Operand.tmp 41), type := 4, pos := "write.go:29", after := #[{ on := 11, ground := Ground.data }, { on := 9, ground := Ground.chain }], guard := none }) (v := ?_) (by kernel_rfl) rfl (by rfl) (by kernel_rfl) (by kernel_rfl) (fun _ _ _ h => h) ?_ (by assumption) ?_
            rotate_left
            · (intro w hSw; (try dsimp only at hSw); go_simp; try with_reducible rfl)
            try simp only [Act.put, List.setIfInBounds_toArray, List.set_cons_zero, List.set_cons_succ]
            refine held_take 13 (oi := { dst := some 43, op := Op.fieldAddr 43 (Operand.tmp 4) 1, type := 0, pos := "write.go:29", after := #[{ on := 12, ground := Ground.guard }], guard := some (12, false) }) (v := ?_) (by kernel_rfl) rfl (by rfl) (by kernel_rfl) (by kernel_rfl) (fun _ _ _ h => h) ?_ (by assumption) ?_
            rotate_left
            · (intro w hSw; (try dsimp only at hSw); go_simp; try with_reducible rfl)
            try simp only [Act.put, List.setIfInBounds_toArray, List.set_cons_zero, List.set_cons_succ]
            refine held_take 14 (oi := { dst := some 44, op := Op.load 9 (Operand.tmp 43), type := 9, pos := "write.go:29", after := #[{ on := 13, ground := Ground.data }, { on := 12, ground := Ground.guard }], guard := some (12, false) }) (v := ?_) (by kernel_rfl) rfl (by rfl) (by kernel_rfl) (by kernel_rfl) (fun _ _ _ h => h) ?_ (by assumption) ?_
            rotate_left
            · (intro w hSw; (try dsimp only at hSw); go_simp; try with_reducible rfl)
            try simp only [Act.put, List.setIfInBounds_toArray, List.set_cons_zero, List.set_cons_succ]
            refine held_one 15 (oi := { dst := some 45, op := Op.call { callee := Callee.value (Operand.func 50), args := #[Operand.tmp 44], argTypes := #[9] }, type := 4, pos := "write.go:29", after := #[{ on := 14, ground := Ground.data }, { on := 12, ground := Ground.chain }, { on := 12, ground := Ground.guard }], guard := some (12, false) }) (by kernel_rfl) rfl (fun K hK => ?_)
            go_simp
            first
              | (go_at_call 47
                 refine (unhide TC _).mono ?_
                 rintro e V1 ⟨rfl, v1⟩
                 have B7 := hide (show Below WA.heap.size WA V1 from ⟨v1.os, v1.tape, v1.output, v1.size, v1.block⟩)
                 clear v1)
              | (go_at_call 36
                 refine (unhide LC _).mono ?_
                 rintro e V2 ⟨rfl, v2⟩
                 have B8 := chain B7 v2
                 clear v2)
              | (go_at_call 50
                 refine (unhide VC _).mono ?_
                 rintro e V3 ⟨rfl, v3⟩
                 have B9 := chain B8 v3
                 clear v3)
            go_wp2_with fail
            refine hK.out _ _ ?_ (fun hHeld => ?_)
            · try dsimp only
              first | (have hV : B9 = B9 := rfl; clear hV; exact ⟨cell_later (unhide B9) e0, cell_later (unhide B9) e1⟩) | (have hV : B8 = B8 := rfl; clear hV; exact ⟨cell_later (unhide B8) e0, cell_later (unhide B8) e1⟩) | (have hV : B7 = B7 := rfl; clear hV; exact ⟨cell_later (unhide B7) e0, cell_later (unhide B7) e1⟩) | exact ⟨e0, e1⟩
            clear hK K
            try simp only [Act.put, List.setIfInBounds_toArray, List.set_cons_zero, List.set_cons_succ]
            refine held_take 16 (oi := { dst := some 46, op := Op.unOp UnOp.not 4 (Operand.tmp 45), type := 4, pos := "write.go:29", after := #[{ on := 15, ground := Ground.data }, { on := 12, ground := Ground.guard }], guard := some (12, false) }) (v := ?_) (by kernel_rfl) rfl (by rfl) (by kernel_rfl) (by kernel_rfl) (fun _ _ _ h => h) ?_ (by assumption) ?_
            rotate_left
            · (intro w hSw; (try dsimp only at hSw); go_simp; try with_reducible rfl)
            try simp only [Act.put, List.setIfInBounds_toArray, List.set_cons_zero, List.set_cons_succ]
            refine held_take 17 (oi := { dst := some 47, op := Op.pick (Operand.tmp 42) (Operand.const (Value.bool true)) (Operand.tmp 46), type := 4, pos := "write.go:29", after := #[{ on := 12, ground := Ground.data }, { on := 16, ground := Ground.data }], guard := none }) (v := ?_) (by kernel_rfl) rfl (by rfl) (by kernel_rfl) (by kernel_rfl) (fun _ _ _ h => h) ?_ (by assumption) ?_
            rotate_left
            · (intro w hSw; (try dsimp only at hSw); go_simp; try with_reducible rfl)
            try simp only [Act.put, List.setIfInBounds_toArray, List.set_cons_zero, List.set_cons_succ]
            refine wpAnyH_done (by kernel_rfl) ?_ _
            go_wp2
            go_roundw
            case rel => exact ⟨j + 1, by omega, by first | rfl | (rw [hw]), HO, hide ((unhide BW).trans ((unhide B9).mono (unhide BW).size))⟩
            case measure => simp [intOf]; omega
    · have hjj : ¬ (j : Int) < (n : Int) := by omega
      obtain rfl : j = n := by omega
      have HA2 := hide (show fs.all fdOk = true by have := unhide HA; rwa [List.take_of_length_le (by rw [unhide HN]; exact Nat.le_refl _)] at this)
      have p3 := cell_later (unhide B) k3d
      have p4 := cell_later (unhide B) k4d
      have HC := hide (hostOf_calls sp c fs j wr (unhide HN) (by simp only [maxLen]; omega) (fun f hf => by have := unhide HZ f hf; simp only [maxLen]; omega) ((unhide HF).later (unhide F)))
      unfold hostOfV at HC
      have HO := hide (show mayBeL ⟨m, p, q, x, fs⟩ = (hostsOk fs && (x == (hostL (seenV fs)).getD [])) by rw [unhide HE2, unhide HA2, Bool.true_and])
      have hy := str_eqL x ((hostL (seenV fs)).getD [])
      have hsx : (stS x).size ≤ 9223372036854775807 := by rw [stS_size]; omega
      have hsy : (stS ((hostL (seenV fs)).getD [])).size ≤ 9223372036854775807 := by
        rw [stS_size]
        cases hh : hostL (seenV fs) with
        | none => simp
        | some z => obtain ⟨_, h2, rfl⟩ := host_parts hh; rw [Option.getD_some, low_len]; have := of_decide_eq_true (Bool.and_eq_true_iff.1 h2).1; omega
      generalize (hostL (seenV fs)).getD [] = z at *
      generalize (x == z) = xz at *
      generalize stS z = sz at *
      generalize stS x = sx at *
      cases hk : hostsOk fs with
      | false =>
        rw [hk] at HC HO
        clear hk
        go_wp2_with (go_at_call 45; refine (unhide HC).mono ?_; rintro e V1 ⟨rfl, v1⟩; have B7 := chain F v1)
        go_ret
        exact ⟨by rw [unhide HO]; rfl, unhide B7⟩
      | true =>
        rw [hk] at HC HO
        clear hk
        go_wp2_with (go_at_call 45; refine (unhide HC).mono ?_; rintro e V1 ⟨rfl, v1⟩; have B7 := chain F v1; have p3b := cell_later v1 p3)
        go_ret
        exact ⟨by rw [unhide HO, Bool.true_and]; rfl, unhide B7⟩
end Go.Proofs.YtmmiadlmdjfepaaDoor
