/- Logs in memory, with their disks; File, Sync, and what a log tells. -/
import Derived.Test.YtijcpmbfhfppmaaGreatDoorWla
import Derived.Test.YtijcpmbfhfppmaaGreatDoorWn2
namespace Go.Proofs.YtijcpmbfhfppmaaGreatDoor
open Go.ChangeShapes Go.WideShapes Go.ChangeAt Go.RowKit
set_option linter.unusedVariables false

/-- A log and its disk; the blocks of Av lie aside. -/
structure WAt (Av : Nat → Prop) (base : Nat) (w : World) (L d M room N : Nat) (ss : Ds) (c : Wc) (n : Nat) (ep : Option Addr) (ec : Nat) (hs : List (Option Addr × Nat)) : Prop where
  dk : DAt (fun g => Av g ∨ g = L ∨ LFoot ep hs g) base w d M room N ss
  lg : CtAt w L 96 [.pointer (some ⟨d, 0, none⟩)] [.int .i64 (n : Int)] c ep ec
  ow : OwnL base w ep ec c.es hs
  bl : base ≤ L
  av : ∀ g, Av g → g ≠ L ∧ ¬ LFoot ep hs g
  ok : WOk c
  nn : n ≤ 1099511627776
  le : c.es.length ≤ 1000000
  tz : ∃ w0 : World, w0.heap.size = base ∧ Tz w0 ∧ Below base w0 w
section
variable {Av : Nat → Prop} {base : Nat} {w w' : World} {L d M room N N' : Nat} {ss ss' : Ds} {c : Wc} {n : Nat} {ep : Option Addr} {ec : Nat} {hs : List (Option Addr × Nat)}
theorem WAt.later (z : WAt Av base w L d M room N ss c n ep ec hs) (u : Below w.heap.size w w') : WAt Av base w' L d M room N ss c n ep ec hs :=
  ⟨z.dk.later u, z.lg.later u, z.ow.later u, z.bl, z.av, z.ok, z.nn, z.le, let ⟨w0, h1, h2, h3⟩ := z.tz; ⟨w0, h1, h2, h3.trans (u.mono z.dk.le)⟩⟩
theorem WAt.disk (z : WAt Av base w L d M room N ss c n ep ec hs) (hd : DAt (fun g => Av g ∨ g = L ∨ LFoot ep hs g) base w' d M room N' ss') (ha : Asd (fun g => Av g ∨ g = L ∨ LFoot ep hs g) base w w') : WAt Av base w' L d M room N' ss' c n ep ec hs :=
  ⟨hd, z.lg.same (ha.av L (.inr (.inl rfl))), z.ow.same (fun g hg => ha.av g (.inr (.inr hg))), z.bl, z.av, z.ok, z.nn, z.le, let ⟨w0, h1, h2, h3⟩ := z.tz; ⟨w0, h1, h2, h3.trans ha.bel⟩⟩
theorem WAt.asd (z : WAt Av base w L d M room N ss c n ep ec hs) (ha : Asd (fun g => Av g ∨ g = L ∨ LFoot ep hs g) base w w') : Asd (fun g => Av g ∨ g = L ∨ LFoot ep hs g) base w w' := ha
theorem WAt.asdB (z : WAt Av base w L d M room N ss c n ep ec hs) (u : Below w.heap.size w w') : Asd (fun g => Av g ∨ g = L ∨ LFoot ep hs g) base w w' := Asd.of (fun g hg => z.dk.lt hg) z.dk.le u
theorem WAt.tzw (z : WAt Av base w L d M room N ss c n ep ec hs) : Tz w := by
  obtain ⟨w0, h1, h2, h3⟩ := z.tz
  exact h2.later (by rw [h1]; exact h3)
/-- What came later lies aside too. -/
theorem WAt.more (z : WAt Av base w L d M room N ss c n ep ec hs) (u : Below w.heap.size w w') : WAt (fun g => Av g ∨ (w.heap.size ≤ g ∧ g < w'.heap.size)) base w' L d M room N ss c n ep ec hs := by
  have z' := z.later u
  refine ⟨(z.dk.more u).av (fun g hg => ?_), z'.lg, z'.ow, z.bl, fun g hg => ?_, z.ok, z.nn, z.le, z'.tz⟩
  · rcases hg with (hg | hg) | hg | hg
    · exact .inl (.inl hg)
    · exact .inr hg
    · exact .inl (.inr (.inl hg))
    · exact .inl (.inr (.inr hg))
  · rcases hg with hg | hg
    · exact z.av g hg
    · refine ⟨fun e => ?_, fun hf => ?_⟩
      · have := z.lg.lt; omega
      · have := (z.ow.foot g hf).2.1; omega
theorem WAt.sub {Bv : Nat → Prop} (z : WAt Av base w L d M room N ss c n ep ec hs) (hb : ∀ g, Bv g → Av g) : WAt Bv base w L d M room N ss c n ep ec hs :=
  ⟨z.dk.av (fun g hg => hg.imp (hb g) id), z.lg, z.ow, z.bl, fun g hg => z.av g (hb g hg), z.ok, z.nn, z.le, z.tz⟩
theorem WAt.ptr (z : WAt Av base w L d M room N ss c n ep ec hs) : w.cell? ⟨L, 0, none⟩ = some (.pointer (some ⟨d, 0, none⟩)) ∧ w.cell? ⟨L, 6, none⟩ = some (.int .i64 (n : Int)) ∧ w.frozen? ⟨L, 6, none⟩ = false :=
  ⟨box_cell z.lg.row 0 _ rfl, box_cell z.lg.row 6 _ rfl, froz_of z.lg.row 6⟩
theorem WAt.ltL (z : WAt Av base w L d M room N ss c n ep ec hs) : L < w.heap.size := z.lg.lt
set_option maxRecDepth 20000 in
set_option maxHeartbeats 4000000 in
theorem file_calls (z : WAt Av base w L d M room N ss c n ep ec hs) : Calls Tryz.prog 34 #[.pointer (some ⟨L, 0, none⟩)] w fun e w' => e = .returned (.string (str (walNm n))) ∧ Below w.heap.size w w' := by
  obtain ⟨c0, c6, _⟩ := z.ptr
  have FC := hide (fileName_calls n (by have := z.nn; omega) w z.tzw)
  generalize str (walNm n) = nm at *
  clear z c0
  go_enter Tryz.func34, Tryz.ntmps34
  go_wp2_with fail
  go_at_call 75
  refine (unhide FC).mono ?_
  rintro e V ⟨rfl, v1⟩
  have B1 := hide v1
  clear v1
  go_wp2
  go_ret
  exact ⟨rfl, unhide B1⟩
/-- How a method of a log ends that changes its disk alone. -/
def WDEnd (Av : Nat → Prop) (base L d M room N : Nat) (w : World) (c : Wc) (n : Nat) (ep : Option Addr) (ec : Nat) (hs : List (Option Addr × Nat)) (r : Nat × Ds) (e : Ending) (w' : World) : Prop :=
  e = .returned (.int .i64 (r.1 : Int)) ∧ WAt Av base w' L d M room N r.2 c n ep ec hs ∧ Asd (fun g => Av g ∨ g = L ∨ LFoot ep hs g) base w w'
theorem nm_size (n : Nat) (hn : n ≤ 1099511627776) : (str (walNm n)).size ≤ maxLen := by
  rw [str_size]
  have := walNm_len n (by omega)
  simp only [maxLen]
  omega
set_option maxRecDepth 20000 in
set_option maxHeartbeats 4000000 in
theorem wsync_calls (z : WAt Av base w L d M room N ss c n ep ec hs) : Calls Tryz.prog 29 #[.pointer (some ⟨L, 0, none⟩)] w (WDEnd Av base L d M room N w c n ep ec hs (dSync (walNm n) ss)) := by
  obtain ⟨c0, _, _⟩ := z.ptr
  have Z := hide z
  have FC := hide (file_calls (z.later ((Below.refl _ _).drew)))
  have SC := hide (fun (W : World) (u : Below w.heap.size w W) => async_calls (z.dk.later u) (str (walNm n)) (nm_size n z.nn))
  rw [str_list] at SC
  have d0 : w.drew.cell? ⟨L, 0, none⟩ = some (.pointer (some ⟨d, 0, none⟩)) := c0
  generalize str (walNm n) = nm at *
  clear z
  go_enter Tryz.func29, Tryz.ntmps29
  go_wp2_with fail
  refine wp_region_held_drew (S := fun w' => w'.cell? ⟨L, 0, none⟩ = some (.pointer (some ⟨d, 0, none⟩))) (by kernel_rfl) ?_ (fun hHeld => ?_)
  · try dsimp only
    first | exact d0 | exact d1 | exact d2
  refine held_take 0 (oi := { dst := some 5, op := Op.move (Operand.tmp 0), type := 39, pos := "wal.go:86", after := #[], guard := none }) (v := ?_) (by kernel_rfl) rfl (by rfl) (by kernel_rfl) (by kernel_rfl) (fun _ _ _ h => h) ?_ (by assumption) ?_
  rotate_left
  · (intro w hSw; (try dsimp only at hSw); go_simp; try with_reducible rfl)
  try simp only [Act.put, List.setIfInBounds_toArray, List.set_cons_zero, List.set_cons_succ]
  refine held_take 1 (oi := { dst := some 6, op := Op.nilCheck (Operand.tmp 5), type := 0, pos := "wal.go:86", after := #[{ on := 0, ground := Ground.data }], guard := none }) (v := ?_) (by kernel_rfl) rfl (by rfl) (by kernel_rfl) (by kernel_rfl) (fun _ _ _ h => h) ?_ (by assumption) ?_
  rotate_left
  · (intro w hSw; (try dsimp only at hSw); go_simp; try with_reducible rfl)
  try simp only [Act.put, List.setIfInBounds_toArray, List.set_cons_zero, List.set_cons_succ]
  refine held_take 2 (oi := { dst := some 7, op := Op.fieldAddr 96 (Operand.tmp 6) 0, type := 0, pos := "wal.go:86", after := #[{ on := 1, ground := Ground.data }], guard := none }) (v := ?_) (by kernel_rfl) rfl (by rfl) (by kernel_rfl) (by kernel_rfl) (fun _ _ _ h => h) ?_ (by assumption) ?_
  rotate_left
  · (intro w hSw; (try dsimp only at hSw); go_simp; try with_reducible rfl)
  try simp only [Act.put, List.setIfInBounds_toArray, List.set_cons_zero, List.set_cons_succ]
  refine held_take 3 (oi := { dst := some 8, op := Op.load 38 (Operand.tmp 7), type := 38, pos := "wal.go:86", after := #[{ on := 2, ground := Ground.data }], guard := none }) (v := ?_) (by kernel_rfl) rfl (by rfl) (by kernel_rfl) (by kernel_rfl) (fun _ _ _ h => h) ?_ (by assumption) ?_
  rotate_left
  · (intro w hSw; (try dsimp only at hSw); go_simp; try with_reducible rfl)
  try simp only [Act.put, List.setIfInBounds_toArray, List.set_cons_zero, List.set_cons_succ]
  refine held_take 4 (oi := { dst := some 9, op := Op.move (Operand.tmp 0), type := 39, pos := "wal.go:86", after := #[], guard := none }) (v := ?_) (by kernel_rfl) rfl (by rfl) (by kernel_rfl) (by kernel_rfl) (fun _ _ _ h => h) ?_ (by assumption) ?_
  rotate_left
  · (intro w hSw; (try dsimp only at hSw); go_simp; try with_reducible rfl)
  try simp only [Act.put, List.setIfInBounds_toArray, List.set_cons_zero, List.set_cons_succ]
  refine held_one 5 (oi := { dst := some 10, op := Op.call { callee := Callee.value (Operand.func 34), args := #[Operand.tmp 9], argTypes := #[39] }, type := 9, pos := "wal.go:86", after := #[{ on := 4, ground := Ground.data }], guard := none }) (by kernel_rfl) rfl (fun K hK => ?_)
  go_simp
  first
    | (go_at_call 34
       refine (unhide FC).mono ?_
       rintro e V1 ⟨rfl, v1⟩
       have d1 := cell_later v1 d0
       have B1 := hide (show Below w.heap.size w V1 from ⟨v1.os, v1.tape, v1.output, v1.size, v1.block⟩)
       clear v1)
    | (go_at_call 37
       refine (unhide SC _ (unhide B1)).mono ?_
       rintro e V2 ⟨rfl, dk2, as2⟩
       have Z2 := hide (((unhide Z).later (unhide B1)).disk dk2 as2)
       have A2 := hide (((unhide Z).asdB (unhide B1)).trans (((unhide Z).later (unhide B1)).asd as2))
       have d2 := (unhide Z2).ptr.1
       clear dk2 as2)
  go_wp2_with fail
  refine hK.out _ _ ?_ (fun hHeld => ?_)
  · try dsimp only
    first | exact d0 | exact d1 | exact d2
  clear hK K
  try simp only [Act.put, List.setIfInBounds_toArray, List.set_cons_zero, List.set_cons_succ]
  refine held_one 6 (oi := { dst := some 11, op := Op.call { callee := Callee.value (Operand.func 37), args := #[Operand.tmp 8, Operand.tmp 10], argTypes := #[38, 9] }, type := 49, pos := "wal.go:86", after := #[{ on := 3, ground := Ground.data }, { on := 5, ground := Ground.data }, { on := 5, ground := Ground.chain }], guard := none }) (by kernel_rfl) rfl (fun K hK => ?_)
  go_simp
  first
    | (go_at_call 34
       refine (unhide FC).mono ?_
       rintro e V1 ⟨rfl, v1⟩
       have d1 := cell_later v1 d0
       have B1 := hide (show Below w.heap.size w V1 from ⟨v1.os, v1.tape, v1.output, v1.size, v1.block⟩)
       clear v1)
    | (go_at_call 37
       refine (unhide SC _ (unhide B1)).mono ?_
       rintro e V2 ⟨rfl, dk2, as2⟩
       have Z2 := hide (((unhide Z).later (unhide B1)).disk dk2 as2)
       have A2 := hide (((unhide Z).asdB (unhide B1)).trans (((unhide Z).later (unhide B1)).asd as2))
       have d2 := (unhide Z2).ptr.1
       clear dk2 as2)
  go_wp2_with fail
  refine hK.out _ _ ?_ (fun hHeld => ?_)
  · try dsimp only
    first | exact d0 | exact d1 | exact d2
  clear hK K
  try simp only [Act.put, List.setIfInBounds_toArray, List.set_cons_zero, List.set_cons_succ]
  refine held_take 7 (oi := { dst := some 2, op := Op.assign (Operand.tmp 11), type := 49, pos := "wal.go:86", after := #[{ on := 6, ground := Ground.data }, { on := 6, ground := Ground.chain }, { on := 0, ground := Ground.phase }, { on := 1, ground := Ground.phase }, { on := 2, ground := Ground.phase }, { on := 3, ground := Ground.phase }, { on := 4, ground := Ground.phase }, { on := 5, ground := Ground.phase }, { on := 6, ground := Ground.phase }], guard := none }) (v := ?_) (by kernel_rfl) rfl (by rfl) (by kernel_rfl) (by kernel_rfl) (fun _ _ _ h => h) ?_ (by assumption) ?_
  rotate_left
  · (intro w hSw; (try dsimp only at hSw); go_simp; try with_reducible rfl)
  try simp only [Act.put, List.setIfInBounds_toArray, List.set_cons_zero, List.set_cons_succ]
  refine wpAnyH_done (by kernel_rfl) ?_ _
  go_wp2
  go_ret
  exact ⟨rfl, unhide Z2, unhide A2⟩
set_option maxRecDepth 20000 in
set_option maxHeartbeats 4000000 in
theorem wlast_calls (z : WAt Av base w L d M room N ss c n ep ec hs) : Calls Tryz.prog 39 #[.pointer (some ⟨L, 0, none⟩)] w fun e w' => e = .returned (.int .i64 ((c.bi + c.es.length : Nat) : Int)) ∧ Below w.heap.size w w' := by
  have LC := hide (last_calls z.lg 1 rfl z.ok.bi (by have := z.le; omega))
  generalize ((c.bi + c.es.length : Nat) : Int) = la at *
  clear z
  go_enter Tryz.func39, Tryz.ntmps39
  go_wp2_with fail
  go_at_call 83
  refine (unhide LC).mono ?_
  rintro e V ⟨rfl, v1⟩
  have B1 := hide v1
  clear v1
  go_wp2
  go_ret
  exact ⟨rfl, unhide B1⟩
set_option maxRecDepth 20000 in
set_option maxHeartbeats 4000000 in
theorem wterm_calls (z : WAt Av base w L d M room N ss c n ep ec hs) (i : Int) (hi : -9223372036854775808 ≤ i ∧ i ≤ 9223372036854775807) : Calls Tryz.prog 19 #[.pointer (some ⟨L, 0, none⟩), .int .i64 i] w fun e w' => e = .returned (.tuple #[.int .i64 (termW c i).1, .bool (termW c i).2]) ∧ Below w.heap.size w w' := by
  have LC := hide (term_calls z.lg 1 rfl z.ok.bi (by have := z.le; omega) z.ow i hi)
  generalize termW c i = tw at *
  obtain ⟨t1, t2⟩ := tw
  dsimp only at *
  clear z
  go_enter Tryz.func19, Tryz.ntmps19
  go_wp2_with fail
  go_at_call 58
  refine (unhide LC).mono ?_
  rintro e V ⟨rfl, v1⟩
  have B1 := hide v1
  clear v1
  go_wp2
  go_ret2
  exact ⟨rfl, unhide B1⟩
end
end Go.Proofs.YtijcpmbfhfppmaaGreatDoor
