/- Logs: replaceFile. -/
import Derived.Test.YtijcpmbfhfppmaaGreatDoorB20
namespace Go.Proofs.YtijcpmbfhfppmaaGreatDoor
open Go.ChangeShapes Go.WideShapes Go.ChangeAt Go.RowKit
set_option linter.unusedVariables false

/-- A log's file is replaced: the error, and the disk behind it. -/
def wReplace (room n : Nat) (b : List Nat) (ss : Ds) : Nat × Ds :=
  if (dWrite room tmpW 0 b ss).1 ≠ 0 then dWrite room tmpW 0 b ss
  else if (dSync tmpW (dWrite room tmpW 0 b ss).2).1 ≠ 0 then dSync tmpW (dWrite room tmpW 0 b ss).2
  else if n = 1099511627776 then (6, (dSync tmpW (dWrite room tmpW 0 b ss).2).2)
  else if n ≠ 0 ∧ walNm n ∉ (dSync tmpW (dWrite room tmpW 0 b ss).2).2.map (·.1) then (8, (dSync tmpW (dWrite room tmpW 0 b ss).2).2)
  else if (dRename tmpW (walNm (n + 1)) (dSync tmpW (dWrite room tmpW 0 b ss).2).2).1 ≠ 0 ∨ n = 0 then dRename tmpW (walNm (n + 1)) (dSync tmpW (dWrite room tmpW 0 b ss).2).2
  else dRemove (walNm n) (dRename tmpW (walNm (n + 1)) (dSync tmpW (dWrite room tmpW 0 b ss).2).2).2
section
variable {Av : Nat → Prop} {base : Nat} {w w' : World} {L d M room N N' : Nat} {ss ss' : Ds} {c : Wc} {n : Nat} {ep : Option Addr} {ec : Nat} {hs : List (Option Addr × Nat)}
theorem tmp_size : (⟨#[119, 97, 108, 46, 116, 109, 112]⟩ : ByteArray).size ≤ maxLen := by decide
set_option maxRecDepth 20000 in
set_option maxHeartbeats 16000000 in
theorem replace_calls (z : WAt Av base w L d M room N ss c n ep ec hs) (hN : N + 1 ≤ 1000000) (xp : Option Addr) (xn xc : Nat) (b : List Nat) (ho : b.length = xn) (hxc : xn ≤ xc) (hB : BytesAt w xp b) (hx0 : xp = none → xc = 0) (hlo : ∀ g off, xp = some ⟨g, off, none⟩ → 0 < xn → g < base ∨ Av g) (hxl : xn ≤ 140737488355328) :
    Calls Tryz.prog 98 #[.pointer (some ⟨L, 0, none⟩), .slice xp xn xc] w (WDEnd Av base L d M room (N + 1) w c n ep ec hs (wReplace room n b ss)) := by
  have WR := hide (show wReplace room n b ss = (if (dWrite room tmpW 0 b ss).1 ≠ 0 then dWrite room tmpW 0 b ss
    else if (dSync tmpW (dWrite room tmpW 0 b ss).2).1 ≠ 0 then dSync tmpW (dWrite room tmpW 0 b ss).2
    else if n = 1099511627776 then (6, (dSync tmpW (dWrite room tmpW 0 b ss).2).2)
    else if n ≠ 0 ∧ walNm n ∉ (dSync tmpW (dWrite room tmpW 0 b ss).2).2.map (·.1) then (8, (dSync tmpW (dWrite room tmpW 0 b ss).2).2)
    else if (dRename tmpW (walNm (n + 1)) (dSync tmpW (dWrite room tmpW 0 b ss).2).2).1 ≠ 0 ∨ n = 0 then dRename tmpW (walNm (n + 1)) (dSync tmpW (dWrite room tmpW 0 b ss).2).2
    else dRemove (walNm n) (dRename tmpW (walNm (n + 1)) (dSync tmpW (dWrite room tmpW 0 b ss).2).2).2) from rfl)
  have WC := hide (awrite_calls z.dk hN ⟨#[119, 97, 108, 46, 116, 109, 112]⟩ tmp_size 0 (by omega) xp xn xc b ho hxc hB hx0 (fun g off e h0 => (hlo g off e h0).imp id .inl) hxl)
  rw [show (⟨#[119, 97, 108, 46, 116, 109, 112]⟩ : ByteArray).data.toList = tmpW from rfl] at WC
  have Z := hide z
  have hnn := z.nn
  have c0 := z.ptr.1
  generalize wReplace room n b ss = wr at *
  generalize dWrite room tmpW 0 b ss = r1 at *
  obtain ⟨e1, s1⟩ := r1
  dsimp only at WR WC
  clear z hB hlo
  go_enter Tryz.func98, Tryz.ntmps98
  go_wp2_with fail
  clear c0
  go_at_call 36
  refine (unhide WC).mono ?_
  rintro e V1 ⟨rfl, dk1, as1⟩
  have A := hide ((unhide Z).asd as1)
  have Z := hide ((unhide Z).disk dk1 as1)
  clear dk1 as1 WC
  dsimp only
  by_cases h1 : e1 = 0
  · subst h1
    rw [if_neg (by simp)] at WR
    have SC := hide (async_calls (unhide Z).dk ⟨#[119, 97, 108, 46, 116, 109, 112]⟩ tmp_size)
    rw [show (⟨#[119, 97, 108, 46, 116, 109, 112]⟩ : ByteArray).data.toList = tmpW from rfl] at SC
    generalize dSync tmpW s1 = r2 at *
    obtain ⟨e2, s2⟩ := r2
    dsimp only at WR SC
    have c0 := (unhide Z).ptr.1
    go_wp2_with fail
    clear c0
    go_at_call 37
    refine (unhide SC).mono ?_
    rintro e V2 ⟨rfl, dk2, as2⟩
    have A := hide ((unhide A).trans ((unhide Z).asd as2))
    have Z := hide ((unhide Z).disk dk2 as2)
    clear dk2 as2 SC
    dsimp only
    by_cases h2 : e2 = 0
    · subst h2
      rw [if_neg (by simp)] at WR
      obtain ⟨c0, c6, _⟩ := (unhide Z).ptr
      by_cases h3 : n = 1099511627776
      · rw [if_pos h3] at WR
        have FE := hide (show WDEnd Av base L d M room (N + 1) w c n ep ec hs wr (.returned (.int .i64 6)) V2 by rw [unhide WR]; exact ⟨rfl, unhide Z, unhide A⟩)
        have h3' : ((n : Int) == 1099511627776) = true := by simp [h3]
        clear h3
        go_wp2
        go_ret
        exact unhide FE
      · rw [if_neg h3] at WR
        have h3' : ((n : Int) == 1099511627776) = false := by simp; omega
        have h3'' : ¬ (n : Int) = 1099511627776 := by omega
        by_cases h4 : n = 0
        · have NN := hide h4
          rw [if_neg (fun hh => hh.1 h4), if_pos (.inr h4)] at WR
          have h4' : ((n : Int) == 0) = true := by simp [h4]
          have d0 : V2.drew.cell? ⟨L, 0, none⟩ = some (.pointer (some ⟨d, 0, none⟩)) := c0
          have d6 : V2.drew.cell? ⟨L, 6, none⟩ = some (.int .i64 (n : Int)) := c6
          have hwr : IntKind.i64.wrap ((n : Int) + 1) = ((n + 1 : Nat) : Int) := by
            rw [IntKind.wrap_i64]
            omega
          have FN := hide (fileName_calls (n + 1) (by omega) V2.drew ((unhide Z).tzw.later ((Below.refl _ _).drew)))
          have RC := hide (fun (W : World) (u : Below V2.heap.size V2 W) => arename_calls ((unhide Z).dk.later u) ⟨#[119, 97, 108, 46, 116, 109, 112]⟩ (str (walNm (n + 1))) tmp_size (by rw [str_size]; have := walNm_len (n + 1) (by omega); simp only [maxLen]; omega))
          rw [show (⟨#[119, 97, 108, 46, 116, 109, 112]⟩ : ByteArray).data.toList = tmpW from rfl, str_list] at RC
          generalize dRename tmpW (walNm (n + 1)) s2 = r3 at *
          obtain ⟨e3, s3⟩ := r3
          try dsimp only at WR RC
          generalize str (walNm (n + 1)) = nm1 at *
          generalize ((n + 1 : Nat) : Int) = n1 at *
          have H4 := hide h4'
          clear h4 h4' h3
          have h4b := unhide H4
          go_wp2_with fail
          refine wp_region_held_drew (S := fun w' => w'.cell? ⟨L, 0, none⟩ = some (.pointer (some ⟨d, 0, none⟩)) ∧ w'.cell? ⟨L, 6, none⟩ = some (.int .i64 (n : Int))) (by kernel_rfl) ?_ (fun hHeld => ?_)
          · try dsimp only
            first | exact ⟨d0, d6⟩ | exact ⟨d01, d61⟩ | exact ⟨d02, d62⟩
          refine held_take 0 (oi := { dst := some 49, op := Op.move (Operand.tmp 0), type := 39, pos := "file.go:110", after := #[], guard := none }) (v := ?_) (by kernel_rfl) rfl (by rfl) (by kernel_rfl) (by kernel_rfl) (fun _ _ _ h => h) ?_ (by assumption) ?_
          rotate_left
          · (intro w hSw; (try dsimp only at hSw); go_simp; try with_reducible rfl)
          try simp only [Act.put, List.setIfInBounds_toArray, List.set_cons_zero, List.set_cons_succ]
          refine held_take 1 (oi := { dst := some 50, op := Op.nilCheck (Operand.tmp 49), type := 0, pos := "file.go:110", after := #[{ on := 0, ground := Ground.data }], guard := none }) (v := ?_) (by kernel_rfl) rfl (by rfl) (by kernel_rfl) (by kernel_rfl) (fun _ _ _ h => h) ?_ (by assumption) ?_
          rotate_left
          · (intro w hSw; (try dsimp only at hSw); go_simp; try with_reducible rfl)
          try simp only [Act.put, List.setIfInBounds_toArray, List.set_cons_zero, List.set_cons_succ]
          refine held_take 2 (oi := { dst := some 51, op := Op.fieldAddr 96 (Operand.tmp 50) 0, type := 0, pos := "file.go:110", after := #[{ on := 1, ground := Ground.data }], guard := none }) (v := ?_) (by kernel_rfl) rfl (by rfl) (by kernel_rfl) (by kernel_rfl) (fun _ _ _ h => h) ?_ (by assumption) ?_
          rotate_left
          · (intro w hSw; (try dsimp only at hSw); go_simp; try with_reducible rfl)
          try simp only [Act.put, List.setIfInBounds_toArray, List.set_cons_zero, List.set_cons_succ]
          refine held_take 3 (oi := { dst := some 52, op := Op.load 38 (Operand.tmp 51), type := 38, pos := "file.go:110", after := #[{ on := 2, ground := Ground.data }], guard := none }) (v := ?_) (by kernel_rfl) rfl (by rfl) (by kernel_rfl) (by kernel_rfl) (fun _ _ _ h => h) ?_ (by assumption) ?_
          rotate_left
          · (intro w hSw; (try dsimp only at hSw); go_simp; try with_reducible rfl)
          try simp only [Act.put, List.setIfInBounds_toArray, List.set_cons_zero, List.set_cons_succ]
          refine held_take 4 (oi := { dst := some 53, op := Op.move (Operand.tmp 0), type := 39, pos := "file.go:110", after := #[], guard := none }) (v := ?_) (by kernel_rfl) rfl (by rfl) (by kernel_rfl) (by kernel_rfl) (fun _ _ _ h => h) ?_ (by assumption) ?_
          rotate_left
          · (intro w hSw; (try dsimp only at hSw); go_simp; try with_reducible rfl)
          try simp only [Act.put, List.setIfInBounds_toArray, List.set_cons_zero, List.set_cons_succ]
          refine held_take 5 (oi := { dst := some 54, op := Op.nilCheck (Operand.tmp 53), type := 0, pos := "file.go:110", after := #[{ on := 4, ground := Ground.data }], guard := none }) (v := ?_) (by kernel_rfl) rfl (by rfl) (by kernel_rfl) (by kernel_rfl) (fun _ _ _ h => h) ?_ (by assumption) ?_
          rotate_left
          · (intro w hSw; (try dsimp only at hSw); go_simp; try with_reducible rfl)
          try simp only [Act.put, List.setIfInBounds_toArray, List.set_cons_zero, List.set_cons_succ]
          refine held_take 6 (oi := { dst := some 55, op := Op.fieldAddr 96 (Operand.tmp 54) 2, type := 0, pos := "file.go:110", after := #[{ on := 5, ground := Ground.data }], guard := none }) (v := ?_) (by kernel_rfl) rfl (by rfl) (by kernel_rfl) (by kernel_rfl) (fun _ _ _ h => h) ?_ (by assumption) ?_
          rotate_left
          · (intro w hSw; (try dsimp only at hSw); go_simp; try with_reducible rfl)
          try simp only [Act.put, List.setIfInBounds_toArray, List.set_cons_zero, List.set_cons_succ]
          refine held_take 7 (oi := { dst := some 56, op := Op.load 3 (Operand.tmp 55), type := 3, pos := "file.go:110", after := #[{ on := 6, ground := Ground.data }], guard := none }) (v := ?_) (by kernel_rfl) rfl (by rfl) (by kernel_rfl) (by kernel_rfl) (fun _ _ _ h => h) ?_ (by assumption) ?_
          rotate_left
          · (intro w hSw; (try dsimp only at hSw); go_simp; try with_reducible rfl)
          try simp only [Act.put, List.setIfInBounds_toArray, List.set_cons_zero, List.set_cons_succ]
          refine held_take 8 (oi := { dst := some 57, op := Op.binOp BinOp.add 3 (Operand.tmp 56) (Operand.const (Value.int IntKind.i64 1)) 3, type := 3, pos := "file.go:110", after := #[{ on := 7, ground := Ground.data }], guard := none }) (v := ?_) (by kernel_rfl) rfl (by rfl) (by kernel_rfl) (by kernel_rfl) (fun _ _ _ h => h) ?_ (by assumption) ?_
          rotate_left
          · (intro w hSw; (try dsimp only at hSw); go_simp; try with_reducible rfl)
          try simp only [Act.put, List.setIfInBounds_toArray, List.set_cons_zero, List.set_cons_succ]
          refine held_one 9 (oi := { dst := some 58, op := Op.call { callee := Callee.value (Operand.func 75), args := #[Operand.tmp 57], argTypes := #[3] }, type := 9, pos := "file.go:110", after := #[{ on := 8, ground := Ground.data }], guard := none }) (by kernel_rfl) rfl (fun K hK => ?_)
          go_simp
          first
            | (go_at_call 75
               refine (unhide FN).mono ?_
               rintro e V6 ⟨rfl, v6⟩
               have d01 := cell_later v6 d0
               have d61 := cell_later v6 d6
               have B6 := hide (show Below V2.heap.size V2 V6 from ⟨v6.os, v6.tape, v6.output, v6.size, v6.block⟩)
               clear v6)
            | (go_at_call 130
               refine (unhide RC _ (unhide B6)).mono ?_
               rintro e V7 ⟨rfl, dk7, as7⟩
               have Z7 := hide (((unhide Z).later (unhide B6)).disk dk7 as7)
               have A7 := hide (((unhide A).trans ((unhide Z).asdB (unhide B6))).trans (((unhide Z).later (unhide B6)).asd as7))
               have d02 := (unhide Z7).ptr.1
               have d62 := (unhide Z7).ptr.2.1
               clear dk7 as7)
          go_wp2_with fail
          refine hK.out _ _ ?_ (fun hHeld => ?_)
          · try dsimp only
            first | exact ⟨d0, d6⟩ | exact ⟨d01, d61⟩ | exact ⟨d02, d62⟩
          clear hK K
          try simp only [Act.put, List.setIfInBounds_toArray, List.set_cons_zero, List.set_cons_succ]
          refine held_one 10 (oi := { dst := some 59, op := Op.call { callee := Callee.value (Operand.func 130), args := #[Operand.tmp 52, Operand.const (Value.string { data := #[119, 97, 108, 46, 116, 109, 112] }), Operand.tmp 58], argTypes := #[38, 9, 9] }, type := 49, pos := "file.go:110", after := #[{ on := 3, ground := Ground.data }, { on := 9, ground := Ground.data }, { on := 9, ground := Ground.chain }], guard := none }) (by kernel_rfl) rfl (fun K hK => ?_)
          go_simp
          first
            | (go_at_call 75
               refine (unhide FN).mono ?_
               rintro e V6 ⟨rfl, v6⟩
               have d01 := cell_later v6 d0
               have d61 := cell_later v6 d6
               have B6 := hide (show Below V2.heap.size V2 V6 from ⟨v6.os, v6.tape, v6.output, v6.size, v6.block⟩)
               clear v6)
            | (go_at_call 130
               refine (unhide RC _ (unhide B6)).mono ?_
               rintro e V7 ⟨rfl, dk7, as7⟩
               have Z7 := hide (((unhide Z).later (unhide B6)).disk dk7 as7)
               have A7 := hide (((unhide A).trans ((unhide Z).asdB (unhide B6))).trans (((unhide Z).later (unhide B6)).asd as7))
               have d02 := (unhide Z7).ptr.1
               have d62 := (unhide Z7).ptr.2.1
               clear dk7 as7)
          go_wp2_with fail
          refine hK.out _ _ ?_ (fun hHeld => ?_)
          · try dsimp only
            first | exact ⟨d0, d6⟩ | exact ⟨d01, d61⟩ | exact ⟨d02, d62⟩
          clear hK K
          try simp only [Act.put, List.setIfInBounds_toArray, List.set_cons_zero, List.set_cons_succ]
          refine held_take 11 (oi := { dst := some 8, op := Op.assign (Operand.tmp 59), type := 49, pos := "file.go:110", after := #[{ on := 10, ground := Ground.data }, { on := 10, ground := Ground.chain }, { on := 0, ground := Ground.phase }, { on := 1, ground := Ground.phase }, { on := 2, ground := Ground.phase }, { on := 3, ground := Ground.phase }, { on := 4, ground := Ground.phase }, { on := 5, ground := Ground.phase }, { on := 6, ground := Ground.phase }, { on := 7, ground := Ground.phase }, { on := 8, ground := Ground.phase }, { on := 9, ground := Ground.phase }, { on := 10, ground := Ground.phase }], guard := none }) (v := ?_) (by kernel_rfl) rfl (by rfl) (by kernel_rfl) (by kernel_rfl) (fun _ _ _ h => h) ?_ (by assumption) ?_
          rotate_left
          · (intro w hSw; (try dsimp only at hSw); go_simp; try with_reducible rfl)
          try simp only [Act.put, List.setIfInBounds_toArray, List.set_cons_zero, List.set_cons_succ]
          refine wpAnyH_done (by kernel_rfl) ?_ _
          have FE := hide (show WDEnd Av base L d M room (N + 1) w c n ep ec hs wr (.returned (.int .i64 (e3 : Int))) V7 by rw [unhide WR]; exact ⟨rfl, unhide Z7, unhide A7⟩)
          clear h4b
          have h4c := unhide H4
          by_cases h6 : e3 = 0
          · subst h6
            go_wp2
            go_ret
            exact unhide FE
          · have h6' : ((e3 : Int) == 0) = false := by simp; omega
            have h6'' : ¬ (e3 : Int) = 0 := by omega
            go_wp2
            go_ret
            exact unhide FE
        · have h4' : ((n : Int) == 0) = false := by simp; omega
          have h4'' : ¬ (n : Int) = 0 := by omega
          have NC := hide (anames_calls (unhide Z).dk)
          go_wp2_with fail
          clear c0 c6
          go_at_call 38
          refine (unhide NC).mono ?_
          rintro e V3 ⟨sp3, n3, k3, rfl, hn3, on3, v3⟩
          have A := hide ((unhide A).trans ((unhide Z).asdB v3))
          have L16 := hide (unhide Z).dk.len
          have Z := hide ((unhide Z).later v3)
          have ON := hide on3
          have HN3 := hide hn3
          clear v3 on3 hn3 NC
          have FC := hide (file_calls (unhide Z))
          go_wp2_with fail
          go_at_call 34
          refine (unhide FC).mono ?_
          rintro e V4 ⟨rfl, v4⟩
          have A := hide ((unhide A).trans ((unhide Z).asdB v4))
          have Z := hide ((unhide Z).later v4)
          have ON := hide ((unhide ON).later v4)
          clear v4 FC
          have CC := hide (contains_calls (n := n3) (unhide ON) (show (s2.map (·.1)).length = n3 by rw [List.length_map]; exact unhide HN3) (by have := unhide HN3; have := unhide L16; omega) (walNm n))
          go_wp2_with fail
          go_at_call 129
          refine (unhide CC).mono ?_
          rintro e V5 ⟨rfl, hV⟩
          subst hV
          clear CC ON
          by_cases h5 : walNm n ∈ s2.map (·.1)
          · rw [if_neg (fun hh => hh.2 h5)] at WR
            rw [decide_eq_true h5]
            clear h5
            obtain ⟨c0, c6, _⟩ := (unhide Z).ptr
            have d0 : V5.drew.cell? ⟨L, 0, none⟩ = some (.pointer (some ⟨d, 0, none⟩)) := c0
            have d6 : V5.drew.cell? ⟨L, 6, none⟩ = some (.int .i64 (n : Int)) := c6
            have hwr : IntKind.i64.wrap ((n : Int) + 1) = ((n + 1 : Nat) : Int) := by
              rw [IntKind.wrap_i64]
              omega
            have FN := hide (fileName_calls (n + 1) (by omega) V5.drew ((unhide Z).tzw.later ((Below.refl _ _).drew)))
            have RC := hide (fun (W : World) (u : Below V5.heap.size V5 W) => arename_calls ((unhide Z).dk.later u) ⟨#[119, 97, 108, 46, 116, 109, 112]⟩ (str (walNm (n + 1))) tmp_size (by rw [str_size]; have := walNm_len (n + 1) (by omega); simp only [maxLen]; omega))
            rw [show (⟨#[119, 97, 108, 46, 116, 109, 112]⟩ : ByteArray).data.toList = tmpW from rfl, str_list] at RC
            generalize dRename tmpW (walNm (n + 1)) s2 = r3 at *
            obtain ⟨e3, s3⟩ := r3
            try dsimp only at WR RC
            generalize str (walNm (n + 1)) = nm1 at *
            generalize ((n + 1 : Nat) : Int) = n1 at *
            by_cases h6 : e3 = 0
            · subst h6
              rw [if_neg (by simp [h4])] at WR
              clear h3 h4
              go_wp2_with fail
              refine wp_region_held_drew (S := fun w' => w'.cell? ⟨L, 0, none⟩ = some (.pointer (some ⟨d, 0, none⟩)) ∧ w'.cell? ⟨L, 6, none⟩ = some (.int .i64 (n : Int))) (by kernel_rfl) ?_ (fun hHeld => ?_)
              · try dsimp only
                first | exact ⟨d0, d6⟩ | exact ⟨d01, d61⟩ | exact ⟨d02, d62⟩
              refine held_take 0 (oi := { dst := some 49, op := Op.move (Operand.tmp 0), type := 39, pos := "file.go:110", after := #[], guard := none }) (v := ?_) (by kernel_rfl) rfl (by rfl) (by kernel_rfl) (by kernel_rfl) (fun _ _ _ h => h) ?_ (by assumption) ?_
              rotate_left
              · (intro w hSw; (try dsimp only at hSw); go_simp; try with_reducible rfl)
              try simp only [Act.put, List.setIfInBounds_toArray, List.set_cons_zero, List.set_cons_succ]
              refine held_take 1 (oi := { dst := some 50, op := Op.nilCheck (Operand.tmp 49), type := 0, pos := "file.go:110", after := #[{ on := 0, ground := Ground.data }], guard := none }) (v := ?_) (by kernel_rfl) rfl (by rfl) (by kernel_rfl) (by kernel_rfl) (fun _ _ _ h => h) ?_ (by assumption) ?_
              rotate_left
              · (intro w hSw; (try dsimp only at hSw); go_simp; try with_reducible rfl)
              try simp only [Act.put, List.setIfInBounds_toArray, List.set_cons_zero, List.set_cons_succ]
              refine held_take 2 (oi := { dst := some 51, op := Op.fieldAddr 96 (Operand.tmp 50) 0, type := 0, pos := "file.go:110", after := #[{ on := 1, ground := Ground.data }], guard := none }) (v := ?_) (by kernel_rfl) rfl (by rfl) (by kernel_rfl) (by kernel_rfl) (fun _ _ _ h => h) ?_ (by assumption) ?_
              rotate_left
              · (intro w hSw; (try dsimp only at hSw); go_simp; try with_reducible rfl)
              try simp only [Act.put, List.setIfInBounds_toArray, List.set_cons_zero, List.set_cons_succ]
              refine held_take 3 (oi := { dst := some 52, op := Op.load 38 (Operand.tmp 51), type := 38, pos := "file.go:110", after := #[{ on := 2, ground := Ground.data }], guard := none }) (v := ?_) (by kernel_rfl) rfl (by rfl) (by kernel_rfl) (by kernel_rfl) (fun _ _ _ h => h) ?_ (by assumption) ?_
              rotate_left
              · (intro w hSw; (try dsimp only at hSw); go_simp; try with_reducible rfl)
              try simp only [Act.put, List.setIfInBounds_toArray, List.set_cons_zero, List.set_cons_succ]
              refine held_take 4 (oi := { dst := some 53, op := Op.move (Operand.tmp 0), type := 39, pos := "file.go:110", after := #[], guard := none }) (v := ?_) (by kernel_rfl) rfl (by rfl) (by kernel_rfl) (by kernel_rfl) (fun _ _ _ h => h) ?_ (by assumption) ?_
              rotate_left
              · (intro w hSw; (try dsimp only at hSw); go_simp; try with_reducible rfl)
              try simp only [Act.put, List.setIfInBounds_toArray, List.set_cons_zero, List.set_cons_succ]
              refine held_take 5 (oi := { dst := some 54, op := Op.nilCheck (Operand.tmp 53), type := 0, pos := "file.go:110", after := #[{ on := 4, ground := Ground.data }], guard := none }) (v := ?_) (by kernel_rfl) rfl (by rfl) (by kernel_rfl) (by kernel_rfl) (fun _ _ _ h => h) ?_ (by assumption) ?_
              rotate_left
              · (intro w hSw; (try dsimp only at hSw); go_simp; try with_reducible rfl)
              try simp only [Act.put, List.setIfInBounds_toArray, List.set_cons_zero, List.set_cons_succ]
              refine held_take 6 (oi := { dst := some 55, op := Op.fieldAddr 96 (Operand.tmp 54) 2, type := 0, pos := "file.go:110", after := #[{ on := 5, ground := Ground.data }], guard := none }) (v := ?_) (by kernel_rfl) rfl (by rfl) (by kernel_rfl) (by kernel_rfl) (fun _ _ _ h => h) ?_ (by assumption) ?_
              rotate_left
              · (intro w hSw; (try dsimp only at hSw); go_simp; try with_reducible rfl)
              try simp only [Act.put, List.setIfInBounds_toArray, List.set_cons_zero, List.set_cons_succ]
              refine held_take 7 (oi := { dst := some 56, op := Op.load 3 (Operand.tmp 55), type := 3, pos := "file.go:110", after := #[{ on := 6, ground := Ground.data }], guard := none }) (v := ?_) (by kernel_rfl) rfl (by rfl) (by kernel_rfl) (by kernel_rfl) (fun _ _ _ h => h) ?_ (by assumption) ?_
              rotate_left
              · (intro w hSw; (try dsimp only at hSw); go_simp; try with_reducible rfl)
              try simp only [Act.put, List.setIfInBounds_toArray, List.set_cons_zero, List.set_cons_succ]
              refine held_take 8 (oi := { dst := some 57, op := Op.binOp BinOp.add 3 (Operand.tmp 56) (Operand.const (Value.int IntKind.i64 1)) 3, type := 3, pos := "file.go:110", after := #[{ on := 7, ground := Ground.data }], guard := none }) (v := ?_) (by kernel_rfl) rfl (by rfl) (by kernel_rfl) (by kernel_rfl) (fun _ _ _ h => h) ?_ (by assumption) ?_
              rotate_left
              · (intro w hSw; (try dsimp only at hSw); go_simp; try with_reducible rfl)
              try simp only [Act.put, List.setIfInBounds_toArray, List.set_cons_zero, List.set_cons_succ]
              refine held_one 9 (oi := { dst := some 58, op := Op.call { callee := Callee.value (Operand.func 75), args := #[Operand.tmp 57], argTypes := #[3] }, type := 9, pos := "file.go:110", after := #[{ on := 8, ground := Ground.data }], guard := none }) (by kernel_rfl) rfl (fun K hK => ?_)
              go_simp
              first
                | (go_at_call 75
                   refine (unhide FN).mono ?_
                   rintro e V6 ⟨rfl, v6⟩
                   have d01 := cell_later v6 d0
                   have d61 := cell_later v6 d6
                   have B6 := hide (show Below V5.heap.size V5 V6 from ⟨v6.os, v6.tape, v6.output, v6.size, v6.block⟩)
                   clear v6)
                | (go_at_call 130
                   refine (unhide RC _ (unhide B6)).mono ?_
                   rintro e V7 ⟨rfl, dk7, as7⟩
                   have Z7 := hide (((unhide Z).later (unhide B6)).disk dk7 as7)
                   have A7 := hide (((unhide A).trans ((unhide Z).asdB (unhide B6))).trans (((unhide Z).later (unhide B6)).asd as7))
                   have d02 := (unhide Z7).ptr.1
                   have d62 := (unhide Z7).ptr.2.1
                   clear dk7 as7)
              go_wp2_with fail
              refine hK.out _ _ ?_ (fun hHeld => ?_)
              · try dsimp only
                first | exact ⟨d0, d6⟩ | exact ⟨d01, d61⟩ | exact ⟨d02, d62⟩
              clear hK K
              try simp only [Act.put, List.setIfInBounds_toArray, List.set_cons_zero, List.set_cons_succ]
              refine held_one 10 (oi := { dst := some 59, op := Op.call { callee := Callee.value (Operand.func 130), args := #[Operand.tmp 52, Operand.const (Value.string { data := #[119, 97, 108, 46, 116, 109, 112] }), Operand.tmp 58], argTypes := #[38, 9, 9] }, type := 49, pos := "file.go:110", after := #[{ on := 3, ground := Ground.data }, { on := 9, ground := Ground.data }, { on := 9, ground := Ground.chain }], guard := none }) (by kernel_rfl) rfl (fun K hK => ?_)
              go_simp
              first
                | (go_at_call 75
                   refine (unhide FN).mono ?_
                   rintro e V6 ⟨rfl, v6⟩
                   have d01 := cell_later v6 d0
                   have d61 := cell_later v6 d6
                   have B6 := hide (show Below V5.heap.size V5 V6 from ⟨v6.os, v6.tape, v6.output, v6.size, v6.block⟩)
                   clear v6)
                | (go_at_call 130
                   refine (unhide RC _ (unhide B6)).mono ?_
                   rintro e V7 ⟨rfl, dk7, as7⟩
                   have Z7 := hide (((unhide Z).later (unhide B6)).disk dk7 as7)
                   have A7 := hide (((unhide A).trans ((unhide Z).asdB (unhide B6))).trans (((unhide Z).later (unhide B6)).asd as7))
                   have d02 := (unhide Z7).ptr.1
                   have d62 := (unhide Z7).ptr.2.1
                   clear dk7 as7)
              go_wp2_with fail
              refine hK.out _ _ ?_ (fun hHeld => ?_)
              · try dsimp only
                first | exact ⟨d0, d6⟩ | exact ⟨d01, d61⟩ | exact ⟨d02, d62⟩
              clear hK K
              try simp only [Act.put, List.setIfInBounds_toArray, List.set_cons_zero, List.set_cons_succ]
              refine held_take 11 (oi := { dst := some 8, op := Op.assign (Operand.tmp 59), type := 49, pos := "file.go:110", after := #[{ on := 10, ground := Ground.data }, { on := 10, ground := Ground.chain }, { on := 0, ground := Ground.phase }, { on := 1, ground := Ground.phase }, { on := 2, ground := Ground.phase }, { on := 3, ground := Ground.phase }, { on := 4, ground := Ground.phase }, { on := 5, ground := Ground.phase }, { on := 6, ground := Ground.phase }, { on := 7, ground := Ground.phase }, { on := 8, ground := Ground.phase }, { on := 9, ground := Ground.phase }, { on := 10, ground := Ground.phase }], guard := none }) (v := ?_) (by kernel_rfl) rfl (by rfl) (by kernel_rfl) (by kernel_rfl) (fun _ _ _ h => h) ?_ (by assumption) ?_
              rotate_left
              · (intro w hSw; (try dsimp only at hSw); go_simp; try with_reducible rfl)
              try simp only [Act.put, List.setIfInBounds_toArray, List.set_cons_zero, List.set_cons_succ]
              refine wpAnyH_done (by kernel_rfl) ?_ _
              have c0 := (unhide Z7).ptr.1
              have d0 : V7.drew.cell? ⟨L, 0, none⟩ = some (.pointer (some ⟨d, 0, none⟩)) := c0
              have FC := hide (file_calls ((unhide Z7).later ((Below.refl _ _).drew)))
              have DC := hide (fun (W : World) (u : Below V7.heap.size V7 W) => aremove_calls ((unhide Z7).dk.later u) (str (walNm n)) (nm_size n hnn))
              rw [str_list] at DC
              generalize dRemove (walNm n) s3 = r4 at *
              obtain ⟨e4, s4⟩ := r4
              generalize str (walNm n) = nm at *
              go_wp2_with fail
              refine wp_region_held_drew (S := fun w' => w'.cell? ⟨L, 0, none⟩ = some (.pointer (some ⟨d, 0, none⟩))) (by kernel_rfl) ?_ (fun hHeld => ?_)
              · try dsimp only
                first | exact d0 | exact d1 | exact d2
              refine held_take 0 (oi := { dst := some 66, op := Op.move (Operand.tmp 0), type := 39, pos := "file.go:113", after := #[], guard := none }) (v := ?_) (by kernel_rfl) rfl (by rfl) (by kernel_rfl) (by kernel_rfl) (fun _ _ _ h => h) ?_ (by assumption) ?_
              rotate_left
              · (intro w hSw; (try dsimp only at hSw); go_simp; try with_reducible rfl)
              try simp only [Act.put, List.setIfInBounds_toArray, List.set_cons_zero, List.set_cons_succ]
              refine held_take 1 (oi := { dst := some 67, op := Op.nilCheck (Operand.tmp 66), type := 0, pos := "file.go:113", after := #[{ on := 0, ground := Ground.data }], guard := none }) (v := ?_) (by kernel_rfl) rfl (by rfl) (by kernel_rfl) (by kernel_rfl) (fun _ _ _ h => h) ?_ (by assumption) ?_
              rotate_left
              · (intro w hSw; (try dsimp only at hSw); go_simp; try with_reducible rfl)
              try simp only [Act.put, List.setIfInBounds_toArray, List.set_cons_zero, List.set_cons_succ]
              refine held_take 2 (oi := { dst := some 68, op := Op.fieldAddr 96 (Operand.tmp 67) 0, type := 0, pos := "file.go:113", after := #[{ on := 1, ground := Ground.data }], guard := none }) (v := ?_) (by kernel_rfl) rfl (by rfl) (by kernel_rfl) (by kernel_rfl) (fun _ _ _ h => h) ?_ (by assumption) ?_
              rotate_left
              · (intro w hSw; (try dsimp only at hSw); go_simp; try with_reducible rfl)
              try simp only [Act.put, List.setIfInBounds_toArray, List.set_cons_zero, List.set_cons_succ]
              refine held_take 3 (oi := { dst := some 69, op := Op.load 38 (Operand.tmp 68), type := 38, pos := "file.go:113", after := #[{ on := 2, ground := Ground.data }], guard := none }) (v := ?_) (by kernel_rfl) rfl (by rfl) (by kernel_rfl) (by kernel_rfl) (fun _ _ _ h => h) ?_ (by assumption) ?_
              rotate_left
              · (intro w hSw; (try dsimp only at hSw); go_simp; try with_reducible rfl)
              try simp only [Act.put, List.setIfInBounds_toArray, List.set_cons_zero, List.set_cons_succ]
              refine held_take 4 (oi := { dst := some 70, op := Op.move (Operand.tmp 0), type := 39, pos := "file.go:113", after := #[], guard := none }) (v := ?_) (by kernel_rfl) rfl (by rfl) (by kernel_rfl) (by kernel_rfl) (fun _ _ _ h => h) ?_ (by assumption) ?_
              rotate_left
              · (intro w hSw; (try dsimp only at hSw); go_simp; try with_reducible rfl)
              try simp only [Act.put, List.setIfInBounds_toArray, List.set_cons_zero, List.set_cons_succ]
              refine held_one 5 (oi := { dst := some 71, op := Op.call { callee := Callee.value (Operand.func 34), args := #[Operand.tmp 70], argTypes := #[39] }, type := 9, pos := "file.go:113", after := #[{ on := 4, ground := Ground.data }], guard := none }) (by kernel_rfl) rfl (fun K hK => ?_)
              go_simp
              first
                | (go_at_call 34
                   refine (unhide FC).mono ?_
                   rintro e V8 ⟨rfl, v8⟩
                   have d1 := cell_later v8 d0
                   have B8 := hide (show Below V7.heap.size V7 V8 from ⟨v8.os, v8.tape, v8.output, v8.size, v8.block⟩)
                   clear v8)
                | (go_at_call 97
                   refine (unhide DC _ (unhide B8)).mono ?_
                   rintro e V9 ⟨rfl, dk9, as9⟩
                   have Z9 := hide (((unhide Z7).later (unhide B8)).disk dk9 as9)
                   have A9 := hide (((unhide A7).trans ((unhide Z7).asdB (unhide B8))).trans (((unhide Z7).later (unhide B8)).asd as9))
                   have d2 := (unhide Z9).ptr.1
                   clear dk9 as9)
              go_wp2_with fail
              refine hK.out _ _ ?_ (fun hHeld => ?_)
              · try dsimp only
                first | exact d0 | exact d1 | exact d2
              clear hK K
              try simp only [Act.put, List.setIfInBounds_toArray, List.set_cons_zero, List.set_cons_succ]
              refine held_one 6 (oi := { dst := some 72, op := Op.call { callee := Callee.value (Operand.func 97), args := #[Operand.tmp 69, Operand.tmp 71], argTypes := #[38, 9] }, type := 49, pos := "file.go:113", after := #[{ on := 3, ground := Ground.data }, { on := 5, ground := Ground.data }, { on := 5, ground := Ground.chain }], guard := none }) (by kernel_rfl) rfl (fun K hK => ?_)
              go_simp
              first
                | (go_at_call 34
                   refine (unhide FC).mono ?_
                   rintro e V8 ⟨rfl, v8⟩
                   have d1 := cell_later v8 d0
                   have B8 := hide (show Below V7.heap.size V7 V8 from ⟨v8.os, v8.tape, v8.output, v8.size, v8.block⟩)
                   clear v8)
                | (go_at_call 97
                   refine (unhide DC _ (unhide B8)).mono ?_
                   rintro e V9 ⟨rfl, dk9, as9⟩
                   have Z9 := hide (((unhide Z7).later (unhide B8)).disk dk9 as9)
                   have A9 := hide (((unhide A7).trans ((unhide Z7).asdB (unhide B8))).trans (((unhide Z7).later (unhide B8)).asd as9))
                   have d2 := (unhide Z9).ptr.1
                   clear dk9 as9)
              go_wp2_with fail
              refine hK.out _ _ ?_ (fun hHeld => ?_)
              · try dsimp only
                first | exact d0 | exact d1 | exact d2
              clear hK K
              try simp only [Act.put, List.setIfInBounds_toArray, List.set_cons_zero, List.set_cons_succ]
              refine held_take 7 (oi := { dst := some 4, op := Op.assign (Operand.tmp 72), type := 49, pos := "file.go:113", after := #[{ on := 6, ground := Ground.data }, { on := 6, ground := Ground.chain }, { on := 0, ground := Ground.phase }, { on := 1, ground := Ground.phase }, { on := 2, ground := Ground.phase }, { on := 3, ground := Ground.phase }, { on := 4, ground := Ground.phase }, { on := 5, ground := Ground.phase }, { on := 6, ground := Ground.phase }], guard := none }) (v := ?_) (by kernel_rfl) rfl (by rfl) (by kernel_rfl) (by kernel_rfl) (fun _ _ _ h => h) ?_ (by assumption) ?_
              rotate_left
              · (intro w hSw; (try dsimp only at hSw); go_simp; try with_reducible rfl)
              try simp only [Act.put, List.setIfInBounds_toArray, List.set_cons_zero, List.set_cons_succ]
              refine wpAnyH_done (by kernel_rfl) ?_ _
              have FE := hide (show WDEnd Av base L d M room (N + 1) w c n ep ec hs wr (.returned (.int .i64 (e4 : Int))) V9 by rw [unhide WR]; exact ⟨rfl, unhide Z9, unhide A9⟩)
              go_wp2
              go_ret
              exact unhide FE
            · rw [if_pos (.inl h6)] at WR
              have h6' : ((e3 : Int) == 0) = false := by simp; omega
              have h6'' : ¬ (e3 : Int) = 0 := by omega
              clear h3 h4
              go_wp2_with fail
              refine wp_region_held_drew (S := fun w' => w'.cell? ⟨L, 0, none⟩ = some (.pointer (some ⟨d, 0, none⟩)) ∧ w'.cell? ⟨L, 6, none⟩ = some (.int .i64 (n : Int))) (by kernel_rfl) ?_ (fun hHeld => ?_)
              · try dsimp only
                first | exact ⟨d0, d6⟩ | exact ⟨d01, d61⟩ | exact ⟨d02, d62⟩
              refine held_take 0 (oi := { dst := some 49, op := Op.move (Operand.tmp 0), type := 39, pos := "file.go:110", after := #[], guard := none }) (v := ?_) (by kernel_rfl) rfl (by rfl) (by kernel_rfl) (by kernel_rfl) (fun _ _ _ h => h) ?_ (by assumption) ?_
              rotate_left
              · (intro w hSw; (try dsimp only at hSw); go_simp; try with_reducible rfl)
              try simp only [Act.put, List.setIfInBounds_toArray, List.set_cons_zero, List.set_cons_succ]
              refine held_take 1 (oi := { dst := some 50, op := Op.nilCheck (Operand.tmp 49), type := 0, pos := "file.go:110", after := #[{ on := 0, ground := Ground.data }], guard := none }) (v := ?_) (by kernel_rfl) rfl (by rfl) (by kernel_rfl) (by kernel_rfl) (fun _ _ _ h => h) ?_ (by assumption) ?_
              rotate_left
              · (intro w hSw; (try dsimp only at hSw); go_simp; try with_reducible rfl)
              try simp only [Act.put, List.setIfInBounds_toArray, List.set_cons_zero, List.set_cons_succ]
              refine held_take 2 (oi := { dst := some 51, op := Op.fieldAddr 96 (Operand.tmp 50) 0, type := 0, pos := "file.go:110", after := #[{ on := 1, ground := Ground.data }], guard := none }) (v := ?_) (by kernel_rfl) rfl (by rfl) (by kernel_rfl) (by kernel_rfl) (fun _ _ _ h => h) ?_ (by assumption) ?_
              rotate_left
              · (intro w hSw; (try dsimp only at hSw); go_simp; try with_reducible rfl)
              try simp only [Act.put, List.setIfInBounds_toArray, List.set_cons_zero, List.set_cons_succ]
              refine held_take 3 (oi := { dst := some 52, op := Op.load 38 (Operand.tmp 51), type := 38, pos := "file.go:110", after := #[{ on := 2, ground := Ground.data }], guard := none }) (v := ?_) (by kernel_rfl) rfl (by rfl) (by kernel_rfl) (by kernel_rfl) (fun _ _ _ h => h) ?_ (by assumption) ?_
              rotate_left
              · (intro w hSw; (try dsimp only at hSw); go_simp; try with_reducible rfl)
              try simp only [Act.put, List.setIfInBounds_toArray, List.set_cons_zero, List.set_cons_succ]
              refine held_take 4 (oi := { dst := some 53, op := Op.move (Operand.tmp 0), type := 39, pos := "file.go:110", after := #[], guard := none }) (v := ?_) (by kernel_rfl) rfl (by rfl) (by kernel_rfl) (by kernel_rfl) (fun _ _ _ h => h) ?_ (by assumption) ?_
              rotate_left
              · (intro w hSw; (try dsimp only at hSw); go_simp; try with_reducible rfl)
              try simp only [Act.put, List.setIfInBounds_toArray, List.set_cons_zero, List.set_cons_succ]
              refine held_take 5 (oi := { dst := some 54, op := Op.nilCheck (Operand.tmp 53), type := 0, pos := "file.go:110", after := #[{ on := 4, ground := Ground.data }], guard := none }) (v := ?_) (by kernel_rfl) rfl (by rfl) (by kernel_rfl) (by kernel_rfl) (fun _ _ _ h => h) ?_ (by assumption) ?_
              rotate_left
              · (intro w hSw; (try dsimp only at hSw); go_simp; try with_reducible rfl)
              try simp only [Act.put, List.setIfInBounds_toArray, List.set_cons_zero, List.set_cons_succ]
              refine held_take 6 (oi := { dst := some 55, op := Op.fieldAddr 96 (Operand.tmp 54) 2, type := 0, pos := "file.go:110", after := #[{ on := 5, ground := Ground.data }], guard := none }) (v := ?_) (by kernel_rfl) rfl (by rfl) (by kernel_rfl) (by kernel_rfl) (fun _ _ _ h => h) ?_ (by assumption) ?_
              rotate_left
              · (intro w hSw; (try dsimp only at hSw); go_simp; try with_reducible rfl)
              try simp only [Act.put, List.setIfInBounds_toArray, List.set_cons_zero, List.set_cons_succ]
              refine held_take 7 (oi := { dst := some 56, op := Op.load 3 (Operand.tmp 55), type := 3, pos := "file.go:110", after := #[{ on := 6, ground := Ground.data }], guard := none }) (v := ?_) (by kernel_rfl) rfl (by rfl) (by kernel_rfl) (by kernel_rfl) (fun _ _ _ h => h) ?_ (by assumption) ?_
              rotate_left
              · (intro w hSw; (try dsimp only at hSw); go_simp; try with_reducible rfl)
              try simp only [Act.put, List.setIfInBounds_toArray, List.set_cons_zero, List.set_cons_succ]
              refine held_take 8 (oi := { dst := some 57, op := Op.binOp BinOp.add 3 (Operand.tmp 56) (Operand.const (Value.int IntKind.i64 1)) 3, type := 3, pos := "file.go:110", after := #[{ on := 7, ground := Ground.data }], guard := none }) (v := ?_) (by kernel_rfl) rfl (by rfl) (by kernel_rfl) (by kernel_rfl) (fun _ _ _ h => h) ?_ (by assumption) ?_
              rotate_left
              · (intro w hSw; (try dsimp only at hSw); go_simp; try with_reducible rfl)
              try simp only [Act.put, List.setIfInBounds_toArray, List.set_cons_zero, List.set_cons_succ]
              refine held_one 9 (oi := { dst := some 58, op := Op.call { callee := Callee.value (Operand.func 75), args := #[Operand.tmp 57], argTypes := #[3] }, type := 9, pos := "file.go:110", after := #[{ on := 8, ground := Ground.data }], guard := none }) (by kernel_rfl) rfl (fun K hK => ?_)
              go_simp
              first
                | (go_at_call 75
                   refine (unhide FN).mono ?_
                   rintro e V6 ⟨rfl, v6⟩
                   have d01 := cell_later v6 d0
                   have d61 := cell_later v6 d6
                   have B6 := hide (show Below V5.heap.size V5 V6 from ⟨v6.os, v6.tape, v6.output, v6.size, v6.block⟩)
                   clear v6)
                | (go_at_call 130
                   refine (unhide RC _ (unhide B6)).mono ?_
                   rintro e V7 ⟨rfl, dk7, as7⟩
                   have Z7 := hide (((unhide Z).later (unhide B6)).disk dk7 as7)
                   have A7 := hide (((unhide A).trans ((unhide Z).asdB (unhide B6))).trans (((unhide Z).later (unhide B6)).asd as7))
                   have d02 := (unhide Z7).ptr.1
                   have d62 := (unhide Z7).ptr.2.1
                   clear dk7 as7)
              go_wp2_with fail
              refine hK.out _ _ ?_ (fun hHeld => ?_)
              · try dsimp only
                first | exact ⟨d0, d6⟩ | exact ⟨d01, d61⟩ | exact ⟨d02, d62⟩
              clear hK K
              try simp only [Act.put, List.setIfInBounds_toArray, List.set_cons_zero, List.set_cons_succ]
              refine held_one 10 (oi := { dst := some 59, op := Op.call { callee := Callee.value (Operand.func 130), args := #[Operand.tmp 52, Operand.const (Value.string { data := #[119, 97, 108, 46, 116, 109, 112] }), Operand.tmp 58], argTypes := #[38, 9, 9] }, type := 49, pos := "file.go:110", after := #[{ on := 3, ground := Ground.data }, { on := 9, ground := Ground.data }, { on := 9, ground := Ground.chain }], guard := none }) (by kernel_rfl) rfl (fun K hK => ?_)
              go_simp
              first
                | (go_at_call 75
                   refine (unhide FN).mono ?_
                   rintro e V6 ⟨rfl, v6⟩
                   have d01 := cell_later v6 d0
                   have d61 := cell_later v6 d6
                   have B6 := hide (show Below V5.heap.size V5 V6 from ⟨v6.os, v6.tape, v6.output, v6.size, v6.block⟩)
                   clear v6)
                | (go_at_call 130
                   refine (unhide RC _ (unhide B6)).mono ?_
                   rintro e V7 ⟨rfl, dk7, as7⟩
                   have Z7 := hide (((unhide Z).later (unhide B6)).disk dk7 as7)
                   have A7 := hide (((unhide A).trans ((unhide Z).asdB (unhide B6))).trans (((unhide Z).later (unhide B6)).asd as7))
                   have d02 := (unhide Z7).ptr.1
                   have d62 := (unhide Z7).ptr.2.1
                   clear dk7 as7)
              go_wp2_with fail
              refine hK.out _ _ ?_ (fun hHeld => ?_)
              · try dsimp only
                first | exact ⟨d0, d6⟩ | exact ⟨d01, d61⟩ | exact ⟨d02, d62⟩
              clear hK K
              try simp only [Act.put, List.setIfInBounds_toArray, List.set_cons_zero, List.set_cons_succ]
              refine held_take 11 (oi := { dst := some 8, op := Op.assign (Operand.tmp 59), type := 49, pos := "file.go:110", after := #[{ on := 10, ground := Ground.data }, { on := 10, ground := Ground.chain }, { on := 0, ground := Ground.phase }, { on := 1, ground := Ground.phase }, { on := 2, ground := Ground.phase }, { on := 3, ground := Ground.phase }, { on := 4, ground := Ground.phase }, { on := 5, ground := Ground.phase }, { on := 6, ground := Ground.phase }, { on := 7, ground := Ground.phase }, { on := 8, ground := Ground.phase }, { on := 9, ground := Ground.phase }, { on := 10, ground := Ground.phase }], guard := none }) (v := ?_) (by kernel_rfl) rfl (by rfl) (by kernel_rfl) (by kernel_rfl) (fun _ _ _ h => h) ?_ (by assumption) ?_
              rotate_left
              · (intro w hSw; (try dsimp only at hSw); go_simp; try with_reducible rfl)
              try simp only [Act.put, List.setIfInBounds_toArray, List.set_cons_zero, List.set_cons_succ]
              refine wpAnyH_done (by kernel_rfl) ?_ _
              have FE := hide (show WDEnd Av base L d M room (N + 1) w c n ep ec hs wr (.returned (.int .i64 (e3 : Int))) V7 by rw [unhide WR]; exact ⟨rfl, unhide Z7, unhide A7⟩)
              go_wp2
              go_ret
              exact unhide FE
          · rw [if_pos ⟨h4, h5⟩] at WR
            rw [decide_eq_false h5]
            have FE := hide (show WDEnd Av base L d M room (N + 1) w c n ep ec hs wr (.returned (.int .i64 8)) V5 by rw [unhide WR]; exact ⟨rfl, unhide Z, unhide A⟩)
            clear h5
            go_wp2
            go_ret
            exact unhide FE
    · rw [if_pos h2] at WR
      have h2' : ((e2 : Int) == 0) = false := by simp; omega
      have h2'' : ¬ (e2 : Int) = 0 := by omega
      have FE := hide (show WDEnd Av base L d M room (N + 1) w c n ep ec hs wr (.returned (.int .i64 (e2 : Int))) V2 by rw [unhide WR]; exact ⟨rfl, unhide Z, unhide A⟩)
      go_wp2
      go_ret
      exact unhide FE
  · rw [if_pos h1] at WR
    have h1' : ((e1 : Int) == 0) = false := by simp; omega
    have h1'' : ¬ (e1 : Int) = 0 := by omega
    have FE := hide (show WDEnd Av base L d M room (N + 1) w c n ep ec hs wr (.returned (.int .i64 (e1 : Int))) V1 by rw [unhide WR]; exact ⟨rfl, unhide Z, unhide A⟩)
    go_wp2
    go_ret
    exact unhide FE
end
end Go.Proofs.YtijcpmbfhfppmaaGreatDoor
