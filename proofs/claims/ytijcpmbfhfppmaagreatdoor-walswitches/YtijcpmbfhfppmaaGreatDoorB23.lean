/- Logs: addRecords. -/
import Derived.Test.YtijcpmbfhfppmaaGreatDoorB22
namespace Go.Proofs.YtijcpmbfhfppmaaGreatDoor
open Go.ChangeShapes Go.WideShapes Go.ChangeAt Go.RowKit
set_option linter.unusedVariables false

/-- What a file holds now (nothing, if there is none), and the error of reading it. -/
def nowL (k : Nm) (ss : Ds) : List Nat := (getS k ss).elim [] (·.now)
def readE (k : Nm) (ss : Ds) : Nat := if (getS k ss).isSome then 0 else 8
theorem readE_or (k : Nm) (ss : Ds) : readE k ss = 0 ∨ readE k ss = 8 := by
  unfold readE
  split
  · exact .inl rfl
  · exact .inr rfl
/-- Records are added: the error, the disk and the number of the file behind it. -/
def wAddR (room n : Nat) (c : Wc) (b : List Nat) (ss : Ds) : Nat × Ds × Nat :=
  if readE (walNm n) ss ≠ 0 then (8, ss, n)
  else if b.length + (nowL (walNm n) ss).length ≤ 262144 then ((dWrite room (walNm n) ((nowL (walNm n) ss).length : Int) b ss).1, (dWrite room (walNm n) ((nowL (walNm n) ss).length : Int) b ss).2, n)
  else if (wAnew room n (allB c) ss).1 ≠ 0 then ((wAnew room n (allB c) ss).1, (wAnew room n (allB c) ss).2, n)
  else ((dWrite room (walNm (n + 1)) ((nowL (walNm (n + 1)) (wAnew room n (allB c) ss).2).length : Int) b (wAnew room n (allB c) ss).2).1, (dWrite room (walNm (n + 1)) ((nowL (walNm (n + 1)) (wAnew room n (allB c) ss).2).length : Int) b (wAnew room n (allB c) ss).2).2, n + 1)
section
variable {Av : Nat → Prop} {base : Nat} {w w' : World} {L d M room N N' : Nat} {ss ss' : Ds} {c : Wc} {n : Nat} {ep : Option Addr} {ec : Nat} {hs : List (Option Addr × Nat)}
theorem aread_calls (h : DAt Av base w d M room N ss) (s : ByteArray) (hs : s.size ≤ maxLen) :
    Calls Tryz.prog 35 #[.pointer (some ⟨d, 0, none⟩), .string s] w fun e w' => ∃ sp k, e = .returned (.tuple #[.slice sp k k, .int .i64 (readE s.data.toList ss : Int)]) ∧ (nowL s.data.toList ss).length = k ∧ k ≤ 262144 ∧ Bx w.heap.size w' sp k (nowL s.data.toList ss) ∧ Below w.heap.size w w' := by
  cases hx : getS s.data.toList ss with
  | none =>
    refine (aread_no h s hs hx).mono ?_
    rintro e W ⟨rfl, rfl⟩
    unfold nowL readE
    rw [hx]
    exact ⟨none, 0, rfl, rfl, by omega, Bx.ofNil _ _, Below.refl _ _⟩
  | some x =>
    refine (aread_yes h s hs x hx).mono ?_
    rintro e W ⟨sp, k, rfl, h1, h2, h3, h4⟩
    unfold nowL readE
    rw [hx]
    exact ⟨sp, k, rfl, h1, h2, h3, h4⟩
theorem BytesAt.asd {a : Option Addr} {l : List Nat} (hb : BytesAt w a l) (h : Asd Av base w w') (hle : base ≤ w.heap.size) (hlo : ∀ g off, a = some ⟨g, off, none⟩ → 0 < l.length → g < base ∨ Av g) : BytesAt w' a l := by
  refine ⟨hb.lt, fun i hi => ?_⟩
  obtain ⟨g, off, rfl, hc⟩ := hb.cell i hi
  refine ⟨g, off, rfl, (World.cell?_of_block ?_).trans hc⟩
  rcases hlo g off rfl (by omega) with q | q
  · exact h.bel.block g q
  · exact h.av g q
theorem WAt.monoN (z : WAt Av base w L d M room N ss c n ep ec hs) (h : N ≤ N') (hf : N' ≤ 1000000) : WAt Av base w L d M room N' ss c n ep ec hs := ⟨z.dk.mono h hf, z.lg, z.ow, z.bl, z.av, z.ok, z.nn, z.le, z.tz⟩
/-- How it ends. -/
def ArEnd (Av : Nat → Prop) (base L d M room N : Nat) (w : World) (c : Wc) (ep : Option Addr) (ec : Nat) (hs : List (Option Addr × Nat)) (r : Nat × Ds × Nat) (e : Ending) (w' : World) : Prop :=
  e = .returned (.int .i64 (r.1 : Int)) ∧ WAt Av base w' L d M room N r.2.1 c r.2.2 ep ec hs ∧ Asd Av base w w'
set_option maxRecDepth 20000 in
set_option maxHeartbeats 16000000 in
theorem addRecords_calls (z : WAt Av base w L d M room N ss c n ep ec hs) (hN : N + 2 ≤ 1000000) (xp : Option Addr) (xn xc : Nat) (b : List Nat) (ho : b.length = xn) (hxc : xn ≤ xc) (hB : BytesAt w xp b) (hx0 : xp = none → xc = 0) (hlo : ∀ g off, xp = some ⟨g, off, none⟩ → 0 < xn → g < base ∨ Av g) (hxl : xn ≤ 140737488355328) :
    Calls Tryz.prog 67 #[.pointer (some ⟨L, 0, none⟩), .slice xp xn xc] w (ArEnd Av base L d M room (N + 2) w c ep ec hs (wAddR room n c b ss)) := by
  have WA := hide (show wAddR room n c b ss = (if readE (walNm n) ss ≠ 0 then (8, ss, n)
    else if b.length + (nowL (walNm n) ss).length ≤ 262144 then ((dWrite room (walNm n) ((nowL (walNm n) ss).length : Int) b ss).1, (dWrite room (walNm n) ((nowL (walNm n) ss).length : Int) b ss).2, n)
    else if (wAnew room n (allB c) ss).1 ≠ 0 then ((wAnew room n (allB c) ss).1, (wAnew room n (allB c) ss).2, n)
    else ((dWrite room (walNm (n + 1)) ((nowL (walNm (n + 1)) (wAnew room n (allB c) ss).2).length : Int) b (wAnew room n (allB c) ss).2).1, (dWrite room (walNm (n + 1)) ((nowL (walNm (n + 1)) (wAnew room n (allB c) ss).2).length : Int) b (wAnew room n (allB c) ss).2).2, n + 1)) from rfl)
  generalize wAddR room n c b ss = wa at *
  have hnn := z.nn
  have Z := hide z
  have HB := hide hB
  have HL := hide hlo
  obtain ⟨c0, _, _⟩ := z.ptr
  have d0 : w.drew.cell? ⟨L, 0, none⟩ = some (.pointer (some ⟨d, 0, none⟩)) := c0
  have FC := hide (file_calls (z.later ((Below.refl _ _).drew)))
  have DC := hide (fun (W : World) (u : Below w.heap.size w W) => aread_calls (z.dk.later u) (str (walNm n)) (nm_size n z.nn))
  rw [str_list] at DC
  have RO := readE_or (walNm n) ss
  have ND := hide (show ∀ W : World, W.heap.size = W.heap.size from fun _ => rfl)
  generalize hNW : str (walNm n) = nm at *
  generalize hR : readE (walNm n) ss = e1 at *
  clear z hB hlo
  go_enter Tryz.func67, Tryz.ntmps67
  go_wp2_with fail
  refine wp_region_held_drew (S := fun w' => w'.cell? ⟨L, 0, none⟩ = some (.pointer (some ⟨d, 0, none⟩))) (by kernel_rfl) ?_ (fun hHeld => ?_)
  · try dsimp only
    first | exact d0 | exact d1 | exact d2
  refine held_take 0 (oi := { dst := some 10, op := Op.move (Operand.tmp 0), type := 39, pos := "file.go:68", after := #[], guard := none }) (v := ?_) (by kernel_rfl) rfl (by rfl) (by kernel_rfl) (by kernel_rfl) (fun _ _ _ h => h) ?_ (by assumption) ?_
  rotate_left
  · (intro w hSw; (try dsimp only at hSw); go_simp; try with_reducible rfl)
  try simp only [Act.put, List.setIfInBounds_toArray, List.set_cons_zero, List.set_cons_succ]
  refine held_take 1 (oi := { dst := some 11, op := Op.nilCheck (Operand.tmp 10), type := 0, pos := "file.go:68", after := #[{ on := 0, ground := Ground.data }], guard := none }) (v := ?_) (by kernel_rfl) rfl (by rfl) (by kernel_rfl) (by kernel_rfl) (fun _ _ _ h => h) ?_ (by assumption) ?_
  rotate_left
  · (intro w hSw; (try dsimp only at hSw); go_simp; try with_reducible rfl)
  try simp only [Act.put, List.setIfInBounds_toArray, List.set_cons_zero, List.set_cons_succ]
  refine held_take 2 (oi := { dst := some 12, op := Op.fieldAddr 96 (Operand.tmp 11) 0, type := 0, pos := "file.go:68", after := #[{ on := 1, ground := Ground.data }], guard := none }) (v := ?_) (by kernel_rfl) rfl (by rfl) (by kernel_rfl) (by kernel_rfl) (fun _ _ _ h => h) ?_ (by assumption) ?_
  rotate_left
  · (intro w hSw; (try dsimp only at hSw); go_simp; try with_reducible rfl)
  try simp only [Act.put, List.setIfInBounds_toArray, List.set_cons_zero, List.set_cons_succ]
  refine held_take 3 (oi := { dst := some 13, op := Op.load 38 (Operand.tmp 12), type := 38, pos := "file.go:68", after := #[{ on := 2, ground := Ground.data }], guard := none }) (v := ?_) (by kernel_rfl) rfl (by rfl) (by kernel_rfl) (by kernel_rfl) (fun _ _ _ h => h) ?_ (by assumption) ?_
  rotate_left
  · (intro w hSw; (try dsimp only at hSw); go_simp; try with_reducible rfl)
  try simp only [Act.put, List.setIfInBounds_toArray, List.set_cons_zero, List.set_cons_succ]
  refine held_take 4 (oi := { dst := some 14, op := Op.move (Operand.tmp 0), type := 39, pos := "file.go:68", after := #[], guard := none }) (v := ?_) (by kernel_rfl) rfl (by rfl) (by kernel_rfl) (by kernel_rfl) (fun _ _ _ h => h) ?_ (by assumption) ?_
  rotate_left
  · (intro w hSw; (try dsimp only at hSw); go_simp; try with_reducible rfl)
  try simp only [Act.put, List.setIfInBounds_toArray, List.set_cons_zero, List.set_cons_succ]
  refine held_one 5 (oi := { dst := some 15, op := Op.call { callee := Callee.value (Operand.func 34), args := #[Operand.tmp 14], argTypes := #[39] }, type := 9, pos := "file.go:68", after := #[{ on := 4, ground := Ground.data }], guard := none }) (by kernel_rfl) rfl (fun K hK => ?_)
  go_simp
  first
    | (go_at_call 34
       refine (unhide FC).mono ?_
       rintro e V1 ⟨rfl, v1⟩
       have d1 := cell_later v1 d0
       have B1 := hide (show Below w.heap.size w V1 from ⟨v1.os, v1.tape, v1.output, v1.size, v1.block⟩)
       clear v1)
    | (go_at_call 35
       refine (unhide DC _ (unhide B1)).mono ?_
       rintro e V2 ⟨sp, k, rfl, hk, hk2, o2, v2⟩
       have d2 := cell_later v2 d1
       have B2 := hide ((unhide B1).trans (v2.mono (unhide B1).size))
       have HK := hide hk
       clear v2 o2 hk)
  go_wp2_with fail
  refine hK.out _ _ ?_ (fun hHeld => ?_)
  · try dsimp only
    first | exact d0 | exact d1 | exact d2
  clear hK K
  try simp only [Act.put, List.setIfInBounds_toArray, List.set_cons_zero, List.set_cons_succ]
  refine held_one 6 (oi := { dst := some 16, op := Op.call { callee := Callee.value (Operand.func 35), args := #[Operand.tmp 13, Operand.tmp 15], argTypes := #[38, 9] }, type := 70, pos := "file.go:68", after := #[{ on := 3, ground := Ground.data }, { on := 5, ground := Ground.data }, { on := 5, ground := Ground.chain }], guard := none }) (by kernel_rfl) rfl (fun K hK => ?_)
  go_simp
  first
    | (go_at_call 34
       refine (unhide FC).mono ?_
       rintro e V1 ⟨rfl, v1⟩
       have d1 := cell_later v1 d0
       have B1 := hide (show Below w.heap.size w V1 from ⟨v1.os, v1.tape, v1.output, v1.size, v1.block⟩)
       clear v1)
    | (go_at_call 35
       refine (unhide DC _ (unhide B1)).mono ?_
       rintro e V2 ⟨sp, k, rfl, hk, hk2, o2, v2⟩
       have d2 := cell_later v2 d1
       have B2 := hide ((unhide B1).trans (v2.mono (unhide B1).size))
       have HK := hide hk
       clear v2 o2 hk)
  go_wp2_with fail
  refine hK.out _ _ ?_ (fun hHeld => ?_)
  · try dsimp only
    first | exact d0 | exact d1 | exact d2
  clear hK K
  try simp only [Act.put, List.setIfInBounds_toArray, List.set_cons_zero, List.set_cons_succ]
  refine held_take 7 (oi := { dst := some 9, op := Op.move (Operand.tmp 16), type := 70, pos := "file.go:68", after := #[{ on := 6, ground := Ground.data }], guard := none }) (v := ?_) (by kernel_rfl) rfl (by rfl) (by kernel_rfl) (by kernel_rfl) (fun _ _ _ h => h) ?_ (by assumption) ?_
  rotate_left
  · (intro w hSw; (try dsimp only at hSw); go_simp; try with_reducible rfl)
  try simp only [Act.put, List.setIfInBounds_toArray, List.set_cons_zero, List.set_cons_succ]
  refine held_take 8 (oi := { dst := some 17, op := Op.extract (Operand.tmp 9) 0, type := 58, pos := "file.go:68", after := #[{ on := 7, ground := Ground.data }], guard := none }) (v := ?_) (by kernel_rfl) rfl (by rfl) (by kernel_rfl) (by kernel_rfl) (fun _ _ _ h => h) ?_ (by assumption) ?_
  rotate_left
  · (intro w hSw; (try dsimp only at hSw); go_simp; try with_reducible rfl)
  try simp only [Act.put, List.setIfInBounds_toArray, List.set_cons_zero, List.set_cons_succ]
  refine held_take 9 (oi := { dst := some 18, op := Op.extract (Operand.tmp 9) 1, type := 49, pos := "file.go:68", after := #[{ on := 7, ground := Ground.data }, { on := 10, ground := Ground.gcOnly Departure.lateStores }], guard := none }) (v := ?_) (by kernel_rfl) rfl (by rfl) (by kernel_rfl) (by kernel_rfl) (fun _ _ _ h => h) ?_ (by assumption) ?_
  rotate_left
  · (intro w hSw; (try dsimp only at hSw); go_simp; try with_reducible rfl)
  try simp only [Act.put, List.setIfInBounds_toArray, List.set_cons_zero, List.set_cons_succ]
  refine held_take 10 (oi := { dst := some 5, op := Op.assign (Operand.tmp 17), type := 58, pos := "file.go:68", after := #[{ on := 8, ground := Ground.data }, { on := 6, ground := Ground.chain }, { on := 0, ground := Ground.phase }, { on := 1, ground := Ground.phase }, { on := 2, ground := Ground.phase }, { on := 3, ground := Ground.phase }, { on := 4, ground := Ground.phase }, { on := 5, ground := Ground.phase }, { on := 6, ground := Ground.phase }, { on := 7, ground := Ground.phase }, { on := 8, ground := Ground.phase }, { on := 9, ground := Ground.textOnly Departure.lateStores }], guard := none }) (v := ?_) (by kernel_rfl) rfl (by rfl) (by kernel_rfl) (by kernel_rfl) (fun _ _ _ h => h) ?_ (by assumption) ?_
  rotate_left
  · (intro w hSw; (try dsimp only at hSw); go_simp; try with_reducible rfl)
  try simp only [Act.put, List.setIfInBounds_toArray, List.set_cons_zero, List.set_cons_succ]
  refine held_take 11 (oi := { dst := some 6, op := Op.assign (Operand.tmp 18), type := 49, pos := "file.go:68", after := #[{ on := 9, ground := Ground.data }, { on := 10, ground := Ground.chain }, { on := 0, ground := Ground.phase }, { on := 1, ground := Ground.phase }, { on := 2, ground := Ground.phase }, { on := 3, ground := Ground.phase }, { on := 4, ground := Ground.phase }, { on := 5, ground := Ground.phase }, { on := 6, ground := Ground.phase }, { on := 7, ground := Ground.phase }, { on := 8, ground := Ground.phase }, { on := 9, ground := Ground.phase }, { on := 10, ground := Ground.phase }], guard := none }) (v := ?_) (by kernel_rfl) rfl (by rfl) (by kernel_rfl) (by kernel_rfl) (fun _ _ _ h => h) ?_ (by assumption) ?_
  rotate_left
  · (intro w hSw; (try dsimp only at hSw); go_simp; try with_reducible rfl)
  try simp only [Act.put, List.setIfInBounds_toArray, List.set_cons_zero, List.set_cons_succ]
  refine wpAnyH_done (by kernel_rfl) ?_ _
  have Z2 := hide ((unhide Z).later (unhide B2))
  have A2 := hide (((unhide Z).asdB (unhide B2)).sub (Bv := Av) (fun g hg => .inl hg))
  have HB2 := hide ((unhide HB).later (unhide B2))
  clear FC DC d0 c0 d1 d2
  rcases RO with h1 | h1
  · subst h1
    rw [if_neg (by simp)] at WA
    rw [unhide HK] at WA
    have c0 := (unhide Z2).ptr.1
    by_cases h2 : b.length + k ≤ 262144
    · rw [if_pos h2] at WA
      have h2' : (xn : Int) ≤ 262144 - (k : Int) := by omega
      have hwr : IntKind.i64.wrap (262144 - (k : Int)) = 262144 - (k : Int) := by
        rw [IntKind.wrap_i64]
        omega
      have hgt : decide (262144 - (k : Int) < (xn : Int)) = false := by simp; omega
      have d0 : V2.drew.cell? ⟨L, 0, none⟩ = some (.pointer (some ⟨d, 0, none⟩)) := c0
      have FC := hide (file_calls ((unhide Z2).later ((Below.refl _ _).drew)))
      have WC := hide (fun (W : World) (u : Below V2.heap.size V2 W) => awrite_calls ((unhide Z2).dk.later u) (show N + 1 ≤ 1000000 by omega) (str (walNm n)) (nm_size n hnn) (k : Int) (by omega) xp xn xc b ho hxc ((unhide HB2).later u) hx0 (fun g off e h0 => (unhide HL g off e h0).imp id .inl) hxl)
      rw [str_list] at WC
      rw [hNW] at FC WC
      generalize dWrite room (walNm n) (k : Int) b ss = r4 at *
      obtain ⟨e4, s4⟩ := r4
      try dsimp only at WA
      go_wp2_with fail
      refine wp_region_held_drew (S := fun w' => w'.cell? ⟨L, 0, none⟩ = some (.pointer (some ⟨d, 0, none⟩))) (by kernel_rfl) ?_ (fun hHeld => ?_)
      · try dsimp only
        first | exact d0 | exact d3 | exact d4
      refine held_take 0 (oi := { dst := some 50, op := Op.move (Operand.tmp 0), type := 39, pos := "file.go:80", after := #[], guard := none }) (v := ?_) (by kernel_rfl) rfl (by rfl) (by kernel_rfl) (by kernel_rfl) (fun _ _ _ h => h) ?_ (by assumption) ?_
      rotate_left
      · (intro w hSw; (try dsimp only at hSw); go_simp; try with_reducible rfl)
      try simp only [Act.put, List.setIfInBounds_toArray, List.set_cons_zero, List.set_cons_succ]
      refine held_take 1 (oi := { dst := some 51, op := Op.nilCheck (Operand.tmp 50), type := 0, pos := "file.go:80", after := #[{ on := 0, ground := Ground.data }], guard := none }) (v := ?_) (by kernel_rfl) rfl (by rfl) (by kernel_rfl) (by kernel_rfl) (fun _ _ _ h => h) ?_ (by assumption) ?_
      rotate_left
      · (intro w hSw; (try dsimp only at hSw); go_simp; try with_reducible rfl)
      try simp only [Act.put, List.setIfInBounds_toArray, List.set_cons_zero, List.set_cons_succ]
      refine held_take 2 (oi := { dst := some 52, op := Op.fieldAddr 96 (Operand.tmp 51) 0, type := 0, pos := "file.go:80", after := #[{ on := 1, ground := Ground.data }], guard := none }) (v := ?_) (by kernel_rfl) rfl (by rfl) (by kernel_rfl) (by kernel_rfl) (fun _ _ _ h => h) ?_ (by assumption) ?_
      rotate_left
      · (intro w hSw; (try dsimp only at hSw); go_simp; try with_reducible rfl)
      try simp only [Act.put, List.setIfInBounds_toArray, List.set_cons_zero, List.set_cons_succ]
      refine held_take 3 (oi := { dst := some 53, op := Op.load 38 (Operand.tmp 52), type := 38, pos := "file.go:80", after := #[{ on := 2, ground := Ground.data }], guard := none }) (v := ?_) (by kernel_rfl) rfl (by rfl) (by kernel_rfl) (by kernel_rfl) (fun _ _ _ h => h) ?_ (by assumption) ?_
      rotate_left
      · (intro w hSw; (try dsimp only at hSw); go_simp; try with_reducible rfl)
      try simp only [Act.put, List.setIfInBounds_toArray, List.set_cons_zero, List.set_cons_succ]
      refine held_take 4 (oi := { dst := some 54, op := Op.move (Operand.tmp 0), type := 39, pos := "file.go:80", after := #[], guard := none }) (v := ?_) (by kernel_rfl) rfl (by rfl) (by kernel_rfl) (by kernel_rfl) (fun _ _ _ h => h) ?_ (by assumption) ?_
      rotate_left
      · (intro w hSw; (try dsimp only at hSw); go_simp; try with_reducible rfl)
      try simp only [Act.put, List.setIfInBounds_toArray, List.set_cons_zero, List.set_cons_succ]
      refine held_take 6 (oi := { dst := some 56, op := Op.move (Operand.tmp 7), type := 3, pos := "file.go:80", after := #[], guard := none }) (v := ?_) (by kernel_rfl) rfl (by rfl) (by kernel_rfl) (by kernel_rfl) (fun _ _ _ h => h) ?_ (by assumption) ?_
      rotate_left
      · (intro w hSw; (try dsimp only at hSw); go_simp; try with_reducible rfl)
      try simp only [Act.put, List.setIfInBounds_toArray, List.set_cons_zero, List.set_cons_succ]
      refine held_take 7 (oi := { dst := some 57, op := Op.move (Operand.tmp 1), type := 58, pos := "file.go:80", after := #[], guard := none }) (v := ?_) (by kernel_rfl) rfl (by rfl) (by kernel_rfl) (by kernel_rfl) (fun _ _ _ h => h) ?_ (by assumption) ?_
      rotate_left
      · (intro w hSw; (try dsimp only at hSw); go_simp; try with_reducible rfl)
      try simp only [Act.put, List.setIfInBounds_toArray, List.set_cons_zero, List.set_cons_succ]
      refine held_one 5 (oi := { dst := some 55, op := Op.call { callee := Callee.value (Operand.func 34), args := #[Operand.tmp 54], argTypes := #[39] }, type := 9, pos := "file.go:80", after := #[{ on := 4, ground := Ground.data }], guard := none }) (by kernel_rfl) rfl (fun K hK => ?_)
      go_simp
      first
        | (go_at_call 34
           refine (unhide FC).mono ?_
           rintro e V8 ⟨rfl, v8⟩
           have d3 := cell_later v8 d0
           have B8 := hide (show Below V2.heap.size V2 V8 from ⟨v8.os, v8.tape, v8.output, v8.size, v8.block⟩)
           clear v8)
        | (go_at_call 36
           refine (unhide WC _ (unhide B8)).mono ?_
           rintro e V9 ⟨rfl, dk9, as9⟩
           have Z9 := hide (((unhide Z2).later (unhide B8)).disk dk9 as9)
           have A9 := hide (((unhide A2).trans (((unhide Z2).asdB (unhide B8)).sub (Bv := Av) (fun g hg => .inl hg))).trans ((((unhide Z2).later (unhide B8)).asd as9).sub (Bv := Av) (fun g hg => .inl hg)))
           have d4 := (unhide Z9).ptr.1
           clear dk9 as9)
      go_wp2_with fail
      refine hK.out _ _ ?_ (fun hHeld => ?_)
      · try dsimp only
        first | exact d0 | exact d3 | exact d4
      clear hK K
      try simp only [Act.put, List.setIfInBounds_toArray, List.set_cons_zero, List.set_cons_succ]
      refine held_one 8 (oi := { dst := some 58, op := Op.call { callee := Callee.value (Operand.func 36), args := #[Operand.tmp 53, Operand.tmp 55, Operand.tmp 56, Operand.tmp 57], argTypes := #[38, 9, 3, 58] }, type := 49, pos := "file.go:80", after := #[{ on := 3, ground := Ground.data }, { on := 5, ground := Ground.data }, { on := 6, ground := Ground.data }, { on := 7, ground := Ground.data }, { on := 5, ground := Ground.chain }], guard := none }) (by kernel_rfl) rfl (fun K hK => ?_)
      go_simp
      first
        | (go_at_call 34
           refine (unhide FC).mono ?_
           rintro e V8 ⟨rfl, v8⟩
           have d3 := cell_later v8 d0
           have B8 := hide (show Below V2.heap.size V2 V8 from ⟨v8.os, v8.tape, v8.output, v8.size, v8.block⟩)
           clear v8)
        | (go_at_call 36
           refine (unhide WC _ (unhide B8)).mono ?_
           rintro e V9 ⟨rfl, dk9, as9⟩
           have Z9 := hide (((unhide Z2).later (unhide B8)).disk dk9 as9)
           have A9 := hide (((unhide A2).trans (((unhide Z2).asdB (unhide B8)).sub (Bv := Av) (fun g hg => .inl hg))).trans ((((unhide Z2).later (unhide B8)).asd as9).sub (Bv := Av) (fun g hg => .inl hg)))
           have d4 := (unhide Z9).ptr.1
           clear dk9 as9)
      go_wp2_with fail
      refine hK.out _ _ ?_ (fun hHeld => ?_)
      · try dsimp only
        first | exact d0 | exact d3 | exact d4
      clear hK K
      try simp only [Act.put, List.setIfInBounds_toArray, List.set_cons_zero, List.set_cons_succ]
      refine held_take 9 (oi := { dst := some 4, op := Op.assign (Operand.tmp 58), type := 49, pos := "file.go:80", after := #[{ on := 8, ground := Ground.data }, { on := 8, ground := Ground.chain }, { on := 0, ground := Ground.phase }, { on := 1, ground := Ground.phase }, { on := 2, ground := Ground.phase }, { on := 3, ground := Ground.phase }, { on := 4, ground := Ground.phase }, { on := 5, ground := Ground.phase }, { on := 6, ground := Ground.phase }, { on := 7, ground := Ground.phase }, { on := 8, ground := Ground.phase }], guard := none }) (v := ?_) (by kernel_rfl) rfl (by rfl) (by kernel_rfl) (by kernel_rfl) (fun _ _ _ h => h) ?_ (by assumption) ?_
      rotate_left
      · (intro w hSw; (try dsimp only at hSw); go_simp; try with_reducible rfl)
      try simp only [Act.put, List.setIfInBounds_toArray, List.set_cons_zero, List.set_cons_succ]
      refine wpAnyH_done (by kernel_rfl) ?_ _
      have FE := hide (show ArEnd Av base L d M room (N + 2) w c ep ec hs wa (.returned (.int .i64 (e4 : Int))) V9 by
        rw [unhide WA]
        exact ⟨rfl, (unhide Z9).monoN (by omega) hN, (unhide A9)⟩)
      go_wp2
      go_ret
      exact unhide FE
    · rw [if_neg h2] at WA
      have h2' : ¬ (xn : Int) ≤ 262144 - (k : Int) := by omega
      have h2'' : 262144 - (k : Int) < (xn : Int) := by omega
      have hwr : IntKind.i64.wrap (262144 - (k : Int)) = 262144 - (k : Int) := by
        rw [IntKind.wrap_i64]
        omega
      have hgt : decide (262144 - (k : Int) < (xn : Int)) = true := by simp; omega
      have AC := hide (wanew_calls (unhide Z2) (show N + 1 ≤ 1000000 by omega) (unhide Z2).ow (fun g hg => .inr hg) (unhide Z2).ok (unhide Z2).le)
      obtain ⟨⟨l1, l2, l3, l4, l5⟩, _⟩ := (unhide Z2).lg.cells 1 rfl
      generalize wAnew room n (allB c) ss = r3 at *
      obtain ⟨e3, s3⟩ := r3
      try dsimp only at WA
      generalize c.es.length = k2 at *
      generalize c.bi = q1 at *
      generalize c.bt = q2 at *
      generalize c.ht = q3 at *
      generalize c.hv = q4 at *
      go_wp2_with fail
      clear l1 l2 l3 l4 l5
      go_at_call 63
      refine (unhide AC).mono ?_
      rintro e V3 ⟨rfl, a3, y3, n3⟩
      have A3 := hide ((unhide A2).trans a3)
      have HB3 := hide ((unhide HB2).asd a3 (unhide Z2).dk.le (fun g off e h0 => unhide HL g off e (by omega)))
      try dsimp only at y3 n3 ⊢
      by_cases h3 : e3 = 0
      · subst h3
        rw [if_neg (by simp)] at WA
        obtain ⟨hn1, z3⟩ := y3 rfl
        have Z3 := hide (z3.sub (Bv := Av) (fun g hg => ⟨hg, ((unhide Z2).av g hg).2⟩))
        clear y3 n3 z3 a3 AC hwr hgt h2' h2'' h2
        have c0 := (unhide Z3).ptr.1
        have d0 : V3.drew.cell? ⟨L, 0, none⟩ = some (.pointer (some ⟨d, 0, none⟩)) := c0
        have FC := hide (file_calls ((unhide Z3).later ((Below.refl _ _).drew)))
        have DC := hide (fun (W : World) (u : Below V3.heap.size V3 W) => aread_calls ((unhide Z3).dk.later u) (str (walNm (n + 1))) (nm_size (n + 1) hn1))
        rw [str_list] at DC
        have ZL := hide (show ∀ W, Below V3.heap.size V3 W → WAt Av base W L d M room (N + 1) s3 c (n + 1) ep ec hs from fun W u => (unhide Z3).later u)
        have NS := nm_size (n + 1) hn1
        generalize hNW1 : str (walNm (n + 1)) = nm1 at *
        generalize readE (walNm (n + 1)) s3 = e5 at *
        go_wp2_with fail
        refine wp_region_held_drew (S := fun w' => w'.cell? ⟨L, 0, none⟩ = some (.pointer (some ⟨d, 0, none⟩))) (by kernel_rfl) ?_ (fun hHeld => ?_)
        · try dsimp only
          first | exact d0 | exact d1 | exact d2
        refine held_take 0 (oi := { dst := some 39, op := Op.move (Operand.tmp 0), type := 39, pos := "file.go:77", after := #[], guard := none }) (v := ?_) (by kernel_rfl) rfl (by rfl) (by kernel_rfl) (by kernel_rfl) (fun _ _ _ h => h) ?_ (by assumption) ?_
        rotate_left
        · (intro w hSw; (try dsimp only at hSw); go_simp; try with_reducible rfl)
        try simp only [Act.put, List.setIfInBounds_toArray, List.set_cons_zero, List.set_cons_succ]
        refine held_take 1 (oi := { dst := some 40, op := Op.nilCheck (Operand.tmp 39), type := 0, pos := "file.go:77", after := #[{ on := 0, ground := Ground.data }], guard := none }) (v := ?_) (by kernel_rfl) rfl (by rfl) (by kernel_rfl) (by kernel_rfl) (fun _ _ _ h => h) ?_ (by assumption) ?_
        rotate_left
        · (intro w hSw; (try dsimp only at hSw); go_simp; try with_reducible rfl)
        try simp only [Act.put, List.setIfInBounds_toArray, List.set_cons_zero, List.set_cons_succ]
        refine held_take 2 (oi := { dst := some 41, op := Op.fieldAddr 96 (Operand.tmp 40) 0, type := 0, pos := "file.go:77", after := #[{ on := 1, ground := Ground.data }], guard := none }) (v := ?_) (by kernel_rfl) rfl (by rfl) (by kernel_rfl) (by kernel_rfl) (fun _ _ _ h => h) ?_ (by assumption) ?_
        rotate_left
        · (intro w hSw; (try dsimp only at hSw); go_simp; try with_reducible rfl)
        try simp only [Act.put, List.setIfInBounds_toArray, List.set_cons_zero, List.set_cons_succ]
        refine held_take 3 (oi := { dst := some 42, op := Op.load 38 (Operand.tmp 41), type := 38, pos := "file.go:77", after := #[{ on := 2, ground := Ground.data }], guard := none }) (v := ?_) (by kernel_rfl) rfl (by rfl) (by kernel_rfl) (by kernel_rfl) (fun _ _ _ h => h) ?_ (by assumption) ?_
        rotate_left
        · (intro w hSw; (try dsimp only at hSw); go_simp; try with_reducible rfl)
        try simp only [Act.put, List.setIfInBounds_toArray, List.set_cons_zero, List.set_cons_succ]
        refine held_take 4 (oi := { dst := some 43, op := Op.move (Operand.tmp 0), type := 39, pos := "file.go:77", after := #[], guard := none }) (v := ?_) (by kernel_rfl) rfl (by rfl) (by kernel_rfl) (by kernel_rfl) (fun _ _ _ h => h) ?_ (by assumption) ?_
        rotate_left
        · (intro w hSw; (try dsimp only at hSw); go_simp; try with_reducible rfl)
        try simp only [Act.put, List.setIfInBounds_toArray, List.set_cons_zero, List.set_cons_succ]
        refine held_one 5 (oi := { dst := some 44, op := Op.call { callee := Callee.value (Operand.func 34), args := #[Operand.tmp 43], argTypes := #[39] }, type := 9, pos := "file.go:77", after := #[{ on := 4, ground := Ground.data }], guard := none }) (by kernel_rfl) rfl (fun K hK => ?_)
        go_simp
        first
          | (go_at_call 34
             refine (unhide FC).mono ?_
             rintro e V4 ⟨rfl, v4⟩
             have d1 := cell_later v4 d0
             have B4 := hide (show Below V3.heap.size V3 V4 from ⟨v4.os, v4.tape, v4.output, v4.size, v4.block⟩)
             clear v4)
          | (go_at_call 35
             refine (unhide DC _ (unhide B4)).mono ?_
             rintro e V5 ⟨sp5, k5, rfl, hk5, hk6, o5, v5⟩
             have d2 := cell_later v5 d1
             have B5 := hide ((unhide B4).trans (v5.mono (unhide B4).size))
             have HK5 := hide hk5
             clear v5 o5 hk5)
        go_wp2_with fail
        refine hK.out _ _ ?_ (fun hHeld => ?_)
        · try dsimp only
          first | exact d0 | exact d1 | exact d2
        clear hK K
        try simp only [Act.put, List.setIfInBounds_toArray, List.set_cons_zero, List.set_cons_succ]
        refine held_one 6 (oi := { dst := some 45, op := Op.call { callee := Callee.value (Operand.func 35), args := #[Operand.tmp 42, Operand.tmp 44], argTypes := #[38, 9] }, type := 70, pos := "file.go:77", after := #[{ on := 3, ground := Ground.data }, { on := 5, ground := Ground.data }, { on := 5, ground := Ground.chain }], guard := none }) (by kernel_rfl) rfl (fun K hK => ?_)
        go_simp
        first
          | (go_at_call 34
             refine (unhide FC).mono ?_
             rintro e V4 ⟨rfl, v4⟩
             have d1 := cell_later v4 d0
             have B4 := hide (show Below V3.heap.size V3 V4 from ⟨v4.os, v4.tape, v4.output, v4.size, v4.block⟩)
             clear v4)
          | (go_at_call 35
             refine (unhide DC _ (unhide B4)).mono ?_
             rintro e V5 ⟨sp5, k5, rfl, hk5, hk6, o5, v5⟩
             have d2 := cell_later v5 d1
             have B5 := hide ((unhide B4).trans (v5.mono (unhide B4).size))
             have HK5 := hide hk5
             clear v5 o5 hk5)
        go_wp2_with fail
        refine hK.out _ _ ?_ (fun hHeld => ?_)
        · try dsimp only
          first | exact d0 | exact d1 | exact d2
        clear hK K
        try simp only [Act.put, List.setIfInBounds_toArray, List.set_cons_zero, List.set_cons_succ]
        refine held_take 7 (oi := { dst := some 38, op := Op.move (Operand.tmp 45), type := 70, pos := "file.go:77", after := #[{ on := 6, ground := Ground.data }], guard := none }) (v := ?_) (by kernel_rfl) rfl (by rfl) (by kernel_rfl) (by kernel_rfl) (fun _ _ _ h => h) ?_ (by assumption) ?_
        rotate_left
        · (intro w hSw; (try dsimp only at hSw); go_simp; try with_reducible rfl)
        try simp only [Act.put, List.setIfInBounds_toArray, List.set_cons_zero, List.set_cons_succ]
        refine held_take 8 (oi := { dst := some 46, op := Op.extract (Operand.tmp 38) 0, type := 58, pos := "file.go:77", after := #[{ on := 7, ground := Ground.data }], guard := none }) (v := ?_) (by kernel_rfl) rfl (by rfl) (by kernel_rfl) (by kernel_rfl) (fun _ _ _ h => h) ?_ (by assumption) ?_
        rotate_left
        · (intro w hSw; (try dsimp only at hSw); go_simp; try with_reducible rfl)
        try simp only [Act.put, List.setIfInBounds_toArray, List.set_cons_zero, List.set_cons_succ]
        refine held_take 9 (oi := { dst := some 47, op := Op.extract (Operand.tmp 38) 1, type := 49, pos := "file.go:77", after := #[{ on := 7, ground := Ground.data }, { on := 10, ground := Ground.gcOnly Departure.lateStores }], guard := none }) (v := ?_) (by kernel_rfl) rfl (by rfl) (by kernel_rfl) (by kernel_rfl) (fun _ _ _ h => h) ?_ (by assumption) ?_
        rotate_left
        · (intro w hSw; (try dsimp only at hSw); go_simp; try with_reducible rfl)
        try simp only [Act.put, List.setIfInBounds_toArray, List.set_cons_zero, List.set_cons_succ]
        refine held_take 10 (oi := { dst := some 5, op := Op.assign (Operand.tmp 46), type := 58, pos := "file.go:77", after := #[{ on := 8, ground := Ground.data }, { on := 6, ground := Ground.chain }, { on := 0, ground := Ground.phase }, { on := 1, ground := Ground.phase }, { on := 2, ground := Ground.phase }, { on := 3, ground := Ground.phase }, { on := 4, ground := Ground.phase }, { on := 5, ground := Ground.phase }, { on := 6, ground := Ground.phase }, { on := 7, ground := Ground.phase }, { on := 8, ground := Ground.phase }, { on := 9, ground := Ground.textOnly Departure.lateStores }], guard := none }) (v := ?_) (by kernel_rfl) rfl (by rfl) (by kernel_rfl) (by kernel_rfl) (fun _ _ _ h => h) ?_ (by assumption) ?_
        rotate_left
        · (intro w hSw; (try dsimp only at hSw); go_simp; try with_reducible rfl)
        try simp only [Act.put, List.setIfInBounds_toArray, List.set_cons_zero, List.set_cons_succ]
        refine wpAnyH_done (by kernel_rfl) ?_ _
        have Z5 := hide ((unhide Z3).later (unhide B5))
        have A5 := hide ((unhide A3).trans (((unhide Z3).asdB (unhide B5)).sub (Bv := Av) (fun g hg => .inl hg)))
        have HB5 := hide ((unhide HB3).later (unhide B5))
        rw [unhide HK5] at WA
        clear FC DC d0 c0 d1 d2
        have c0 := (unhide Z5).ptr.1
        have d0 : V5.drew.cell? ⟨L, 0, none⟩ = some (.pointer (some ⟨d, 0, none⟩)) := c0
        have FC := hide (file_calls ((unhide Z5).later ((Below.refl _ _).drew)))
        have WC := hide (fun (W : World) (u : Below V5.heap.size V5 W) => awrite_calls ((unhide Z5).dk.later u) (show N + 1 + 1 ≤ 1000000 by omega) (str (walNm (n + 1))) (by rw [hNW1]; exact NS) (k5 : Int) (by omega) xp xn xc b ho hxc ((unhide HB5).later u) hx0 (fun g off e h0 => (unhide HL g off e h0).imp id .inl) hxl)
        rw [str_list] at WC
        rw [hNW1] at FC WC
        generalize dWrite room (walNm (n+1)) (k5 : Int) b s3 = r4 at *
        obtain ⟨e4, s4⟩ := r4
        try dsimp only at WA
        go_wp2_with fail
        refine wp_region_held_drew (S := fun w' => w'.cell? ⟨L, 0, none⟩ = some (.pointer (some ⟨d, 0, none⟩))) (by kernel_rfl) ?_ (fun hHeld => ?_)
        · try dsimp only
          first | exact d0 | exact d3 | exact d4
        refine held_take 0 (oi := { dst := some 50, op := Op.move (Operand.tmp 0), type := 39, pos := "file.go:80", after := #[], guard := none }) (v := ?_) (by kernel_rfl) rfl (by rfl) (by kernel_rfl) (by kernel_rfl) (fun _ _ _ h => h) ?_ (by assumption) ?_
        rotate_left
        · (intro w hSw; (try dsimp only at hSw); go_simp; try with_reducible rfl)
        try simp only [Act.put, List.setIfInBounds_toArray, List.set_cons_zero, List.set_cons_succ]
        refine held_take 1 (oi := { dst := some 51, op := Op.nilCheck (Operand.tmp 50), type := 0, pos := "file.go:80", after := #[{ on := 0, ground := Ground.data }], guard := none }) (v := ?_) (by kernel_rfl) rfl (by rfl) (by kernel_rfl) (by kernel_rfl) (fun _ _ _ h => h) ?_ (by assumption) ?_
        rotate_left
        · (intro w hSw; (try dsimp only at hSw); go_simp; try with_reducible rfl)
        try simp only [Act.put, List.setIfInBounds_toArray, List.set_cons_zero, List.set_cons_succ]
        refine held_take 2 (oi := { dst := some 52, op := Op.fieldAddr 96 (Operand.tmp 51) 0, type := 0, pos := "file.go:80", after := #[{ on := 1, ground := Ground.data }], guard := none }) (v := ?_) (by kernel_rfl) rfl (by rfl) (by kernel_rfl) (by kernel_rfl) (fun _ _ _ h => h) ?_ (by assumption) ?_
        rotate_left
        · (intro w hSw; (try dsimp only at hSw); go_simp; try with_reducible rfl)
        try simp only [Act.put, List.setIfInBounds_toArray, List.set_cons_zero, List.set_cons_succ]
        refine held_take 3 (oi := { dst := some 53, op := Op.load 38 (Operand.tmp 52), type := 38, pos := "file.go:80", after := #[{ on := 2, ground := Ground.data }], guard := none }) (v := ?_) (by kernel_rfl) rfl (by rfl) (by kernel_rfl) (by kernel_rfl) (fun _ _ _ h => h) ?_ (by assumption) ?_
        rotate_left
        · (intro w hSw; (try dsimp only at hSw); go_simp; try with_reducible rfl)
        try simp only [Act.put, List.setIfInBounds_toArray, List.set_cons_zero, List.set_cons_succ]
        refine held_take 4 (oi := { dst := some 54, op := Op.move (Operand.tmp 0), type := 39, pos := "file.go:80", after := #[], guard := none }) (v := ?_) (by kernel_rfl) rfl (by rfl) (by kernel_rfl) (by kernel_rfl) (fun _ _ _ h => h) ?_ (by assumption) ?_
        rotate_left
        · (intro w hSw; (try dsimp only at hSw); go_simp; try with_reducible rfl)
        try simp only [Act.put, List.setIfInBounds_toArray, List.set_cons_zero, List.set_cons_succ]
        refine held_take 6 (oi := { dst := some 56, op := Op.move (Operand.tmp 7), type := 3, pos := "file.go:80", after := #[], guard := none }) (v := ?_) (by kernel_rfl) rfl (by rfl) (by kernel_rfl) (by kernel_rfl) (fun _ _ _ h => h) ?_ (by assumption) ?_
        rotate_left
        · (intro w hSw; (try dsimp only at hSw); go_simp; try with_reducible rfl)
        try simp only [Act.put, List.setIfInBounds_toArray, List.set_cons_zero, List.set_cons_succ]
        refine held_take 7 (oi := { dst := some 57, op := Op.move (Operand.tmp 1), type := 58, pos := "file.go:80", after := #[], guard := none }) (v := ?_) (by kernel_rfl) rfl (by rfl) (by kernel_rfl) (by kernel_rfl) (fun _ _ _ h => h) ?_ (by assumption) ?_
        rotate_left
        · (intro w hSw; (try dsimp only at hSw); go_simp; try with_reducible rfl)
        try simp only [Act.put, List.setIfInBounds_toArray, List.set_cons_zero, List.set_cons_succ]
        refine held_one 5 (oi := { dst := some 55, op := Op.call { callee := Callee.value (Operand.func 34), args := #[Operand.tmp 54], argTypes := #[39] }, type := 9, pos := "file.go:80", after := #[{ on := 4, ground := Ground.data }], guard := none }) (by kernel_rfl) rfl (fun K hK => ?_)
        go_simp
        first
          | (go_at_call 34
             refine (unhide FC).mono ?_
             rintro e V8 ⟨rfl, v8⟩
             have d3 := cell_later v8 d0
             have B8 := hide (show Below V5.heap.size V5 V8 from ⟨v8.os, v8.tape, v8.output, v8.size, v8.block⟩)
             clear v8)
          | (go_at_call 36
             refine (unhide WC _ (unhide B8)).mono ?_
             rintro e V9 ⟨rfl, dk9, as9⟩
             have Z9 := hide (((unhide Z5).later (unhide B8)).disk dk9 as9)
             have A9 := hide (((unhide A5).trans (((unhide Z5).asdB (unhide B8)).sub (Bv := Av) (fun g hg => .inl hg))).trans ((((unhide Z5).later (unhide B8)).asd as9).sub (Bv := Av) (fun g hg => .inl hg)))
             have d4 := (unhide Z9).ptr.1
             clear dk9 as9)
        go_wp2_with fail
        refine hK.out _ _ ?_ (fun hHeld => ?_)
        · try dsimp only
          first | exact d0 | exact d3 | exact d4
        clear hK K
        try simp only [Act.put, List.setIfInBounds_toArray, List.set_cons_zero, List.set_cons_succ]
        refine held_one 8 (oi := { dst := some 58, op := Op.call { callee := Callee.value (Operand.func 36), args := #[Operand.tmp 53, Operand.tmp 55, Operand.tmp 56, Operand.tmp 57], argTypes := #[38, 9, 3, 58] }, type := 49, pos := "file.go:80", after := #[{ on := 3, ground := Ground.data }, { on := 5, ground := Ground.data }, { on := 6, ground := Ground.data }, { on := 7, ground := Ground.data }, { on := 5, ground := Ground.chain }], guard := none }) (by kernel_rfl) rfl (fun K hK => ?_)
        go_simp
        first
          | (go_at_call 34
             refine (unhide FC).mono ?_
             rintro e V8 ⟨rfl, v8⟩
             have d3 := cell_later v8 d0
             have B8 := hide (show Below V5.heap.size V5 V8 from ⟨v8.os, v8.tape, v8.output, v8.size, v8.block⟩)
             clear v8)
          | (go_at_call 36
             refine (unhide WC _ (unhide B8)).mono ?_
             rintro e V9 ⟨rfl, dk9, as9⟩
             have Z9 := hide (((unhide Z5).later (unhide B8)).disk dk9 as9)
             have A9 := hide (((unhide A5).trans (((unhide Z5).asdB (unhide B8)).sub (Bv := Av) (fun g hg => .inl hg))).trans ((((unhide Z5).later (unhide B8)).asd as9).sub (Bv := Av) (fun g hg => .inl hg)))
             have d4 := (unhide Z9).ptr.1
             clear dk9 as9)
        go_wp2_with fail
        refine hK.out _ _ ?_ (fun hHeld => ?_)
        · try dsimp only
          first | exact d0 | exact d3 | exact d4
        clear hK K
        try simp only [Act.put, List.setIfInBounds_toArray, List.set_cons_zero, List.set_cons_succ]
        refine held_take 9 (oi := { dst := some 4, op := Op.assign (Operand.tmp 58), type := 49, pos := "file.go:80", after := #[{ on := 8, ground := Ground.data }, { on := 8, ground := Ground.chain }, { on := 0, ground := Ground.phase }, { on := 1, ground := Ground.phase }, { on := 2, ground := Ground.phase }, { on := 3, ground := Ground.phase }, { on := 4, ground := Ground.phase }, { on := 5, ground := Ground.phase }, { on := 6, ground := Ground.phase }, { on := 7, ground := Ground.phase }, { on := 8, ground := Ground.phase }], guard := none }) (v := ?_) (by kernel_rfl) rfl (by rfl) (by kernel_rfl) (by kernel_rfl) (fun _ _ _ h => h) ?_ (by assumption) ?_
        rotate_left
        · (intro w hSw; (try dsimp only at hSw); go_simp; try with_reducible rfl)
        try simp only [Act.put, List.setIfInBounds_toArray, List.set_cons_zero, List.set_cons_succ]
        refine wpAnyH_done (by kernel_rfl) ?_ _
        have FE := hide (show ArEnd Av base L d M room (N + 2) w c ep ec hs wa (.returned (.int .i64 (e4 : Int))) V9 by
          rw [unhide WA]
          exact ⟨rfl, (unhide Z9).monoN (by omega) hN, (unhide A9)⟩)
        go_wp2
        go_ret
        exact unhide FE
      · rw [if_pos h3] at WA
        have h3' : ((e3 : Int) == 0) = false := by simp; omega
        have h3'' : ¬ (e3 : Int) = 0 := by omega
        have FE := hide (show ArEnd Av base L d M room (N + 2) w c ep ec hs wa (.returned (.int .i64 (e3 : Int))) V3 by
          rw [unhide WA]
          exact ⟨rfl, (n3 h3).monoN (by omega) hN, unhide A3⟩)
        clear y3 n3 a3
        go_wp2
        go_ret
        exact unhide FE
  · subst h1
    rw [if_pos (by simp)] at WA
    have FE := hide (show ArEnd Av base L d M room (N + 2) w c ep ec hs wa (.returned (.int .i64 8)) V2 by
      rw [unhide WA]
      exact ⟨rfl, (unhide Z2).monoN (by omega) hN, (unhide A2)⟩)
    go_wp2
    go_ret
    exact unhide FE
end
end Go.Proofs.YtijcpmbfhfppmaaGreatDoor
