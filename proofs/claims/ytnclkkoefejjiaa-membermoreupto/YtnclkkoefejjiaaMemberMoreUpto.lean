/- Proved: a quorum with more numbers is one, in any order, whatever the members and the two lists; under the second form's bound on what the arguments hold. -/
import Derived.Test.YtnclkkoefejjiaaMbp
import Derived.Test.YtnclkkoefejjiaaHld
/- row64S -/
import Derived.Test.YtnclkkoefejjiaaBulk
import Derived.JoinedCond
namespace Go.Proofs.Ytnclkkoefejjiaa.memberMoreUpto
open Go.ChangeShapes Go.WideShapes Go.ChangeAt Go.RowKit
set_option linter.unusedVariables false

theorem own : ownKnob Try.prog.godebug = none := by kernel_rfl
theorem laidOut : laidOutB Try.prog = true := by kernel_rfl

set_option maxRecDepth 20000 in
set_option maxHeartbeats 8000000 in
theorem walk (va0 : Option Addr) (vc0 : Nat) (vs0 : List Int) (la0 : Option Addr) (lc0 : Nat) (ls0 : List Int) (a1 : Option Addr) (c1 : Nat) (l1 : List Int) (a2 : Option Addr) (c2 : Nat) (l2 : List Int) (w : World)
    (hsv0 : vs0.length ≤ maxLen) (hV0 : IntsAt w va0 vs0) (_ : va0 = none → vc0 = 0) (hsl0 : ls0.length ≤ maxLen) (hL0 : IntsAt w la0 ls0) (_ : la0 = none → lc0 = 0)
    (hs1 : l1.length ≤ 1048576) (hb1 : IntsAt w a1 l1) (hz1 : a1 = none → c1 = 0) (hs2 : l2.length ≤ 1048576) (hb2 : IntsAt w a2 l2) (hz2 : a2 = none → c2 = 0) :
    Calls Try.prog 9 #[mV va0 vs0.length vc0 la0 ls0.length lc0, .slice a1 l1.length c1, .slice a2 l2.length c2] w fun e w' => e = .returned (.bool true) ∧ Below w.heap.size w w' := by
  obtain ⟨vn, hvn⟩ : ∃ n, vs0.length = n := ⟨_, rfl⟩
  obtain ⟨ln, hln⟩ : ∃ n, ls0.length = n := ⟨_, rfl⟩
  obtain ⟨n1, hn1⟩ : ∃ n, l1.length = n := ⟨_, rfl⟩
  obtain ⟨n2, hn2⟩ : ∃ n, l2.length = n := ⟨_, rfl⟩
  rw [hvn] at hsv0
  rw [hln] at hsl0
  rw [hn1] at hs1
  rw [hn2] at hs2
  rw [hvn, hln, hn1, hn2]
  have X1 := hide (heap_new w (mB va0 vn vc0 la0 ln lc0))
  have b1 := hide (show Below w.heap.size w (w.alloc (mB va0 vn vc0 la0 ln lc0)) from (Below.refl _ _).alloc (Nat.le_refl _) _)
  have V1 := hide (hV0.later (unhide b1))
  have L1 := hide (hL0.later (unhide b1))
  have P1 := hide (hb1.later (unhide b1))
  have R1 := hide (hb2.later (unhide b1))
  have VN := hide hvn
  have LN := hide hln
  have N1 := hide hn1
  have N2 := hide hn2
  have Z1 := hide hz1
  have Z2 := hide hz2
  have c0 := box_cell (unhide X1) 0 _ rfl
  have c1' := box_cell (unhide X1) 1 _ rfl
  clear hV0 hL0 hb1 hb2 hvn hln hn1 hn2 hz1 hz2
  have key := hide (show ∀ W : World, Below (w.alloc (mB va0 vn vc0 la0 ln lc0)).heap.size (w.alloc (mB va0 vn vc0 la0 ln lc0)) W → W.cell? ⟨w.heap.size, 0, none⟩ = some (.slice va0 vn vc0) ∧ W.cell? ⟨w.heap.size, 1, none⟩ = some (.slice la0 ln lc0) from fun W h => ⟨cell_later h c0, cell_later h c1'⟩)
  have ZE := hide (show (w.alloc (mB va0 vn vc0 la0 ln lc0)).heap.size = w.heap.size + 1 by simp)
  go_enter Try.func9, Try.ntmps9
  go_wp2_with (at_builtin; refine unhide ?_)
  refine hide ?_
  generalize hD : w.heap.size = D at *
  generalize w.alloc (mB va0 vn vc0 la0 ln lc0) = w1 at *
  have hE := unhide ZE
  have b2 : Below (D + 1) w1 (w1.alloc (.cells #[] 3)) := (Below.refl _ _).alloc (by omega) _
  have o2 := OwnI.empty w1 (D + 1) (by omega)
  rw [hE] at o2
  refine wpList_appendI rfl (.tmp 9) (.tmp 10) rfl (D + 1) (some ⟨(D + 1), 0, none⟩) 0 0 [] rfl rfl o2 a1 n1 c1 rfl l1 (unhide N1) ((unhide P1).later (by rw [hE]; exact b2)) (unhide Z1) (by simp only [List.length_nil]; omega) (by have := b2.size; omega) ?_
  intro sp3 n3 k3 w3 hn3 o3 g3
  rw [List.nil_append] at hn3 o3
  have B3 := hide (b2.trans (GrewI.below g3 o2 (by have := b2.size; omega)))
  have O3 := hide o3
  have N3 := hide (unhide hn3)
  have P3 := hide ((unhide P1).later (by rw [hE]; exact unhide B3))
  have R3 := hide ((unhide R1).later (by rw [hE]; exact unhide B3))
  clear b2 o2 o3 g3 hn3
  go_wp2_with (at_builtin; refine unhide ?_)
  refine hide ?_
  refine wpList_appendI rfl (.tmp 11) (.tmp 12) rfl (D + 1) sp3 n3 k3 l1 rfl (unhide N3) (unhide O3) a2 n2 c2 rfl l2 (unhide N2) (unhide R3) (unhide Z2) (by rw [unhide N1]; omega) (by have := (unhide B3).size; omega) ?_
  intro sp4 n4 k4 w4 hn4 o4 g4
  have B4 := hide ((unhide B3).trans (GrewI.below g4 (unhide O3) (by have := (unhide B3).size; omega)))
  have O4 := hide o4
  have N4 := hide (unhide hn4)
  have M4 := hide (show n4 = n1 + n2 by rw [← unhide hn4, List.length_append, unhide N1, unhide N2])
  have P4 := hide ((unhide P1).later (by rw [hE]; exact unhide B4))
  have R4 := hide ((unhide R1).later (by rw [hE]; exact unhide B4))
  clear o4 g4 hn4 P3 R3 O3 N3
  go_wp2_with (at_builtin; refine unhide ?_)
  refine hide ?_
  generalize hF : w4.heap.size = E4 at *
  have b5 : Below E4 w4 (w4.alloc (.cells #[] 3)) := (Below.refl _ _).alloc (by omega) _
  have o5 := OwnI.empty w4 E4 (by omega)
  rw [hF] at o5
  refine wpList_appendI rfl (.tmp 14) (.tmp 15) rfl E4 (some ⟨E4, 0, none⟩) 0 0 [] rfl rfl o5 a2 n2 c2 rfl l2 (unhide N2) ((unhide R4).later (by rw [hF]; exact b5)) (unhide Z2) (by simp only [List.length_nil]; omega) (by have := b5.size; omega) ?_
  intro sp6 n6 k6 w6 hn6 o6 g6
  rw [List.nil_append] at hn6 o6
  have B6 := hide (b5.trans (GrewI.below g6 o5 (by have := b5.size; omega)))
  have O6 := hide o6
  have N6 := hide (unhide hn6)
  have P6 := hide ((unhide P4).later (by rw [hF]; exact unhide B6))
  clear b5 o5 o6 g6 hn6
  go_wp2_with (at_builtin; refine unhide ?_)
  refine hide ?_
  refine wpList_appendI rfl (.tmp 16) (.tmp 17) rfl E4 sp6 n6 k6 l2 rfl (unhide N6) (unhide O6) a1 n1 c1 rfl l1 (unhide N1) (unhide P6) (unhide Z1) (by rw [unhide N2]; omega) (by have := (unhide B6).size; omega) ?_
  intro sp7 n7 k7 w7 hn7 o7 g7
  have B7 := hide ((unhide B6).trans (GrewI.below g7 (unhide O6) (by have := (unhide B6).size; omega)))
  have Y7 := hide o7.ints
  have N7 := hide (unhide hn7)
  have M7 := hide (show n7 = n2 + n1 by rw [← unhide hn7, List.length_append, unhide N1, unhide N2])
  have X7 := hide ((unhide O4).ints.later (by rw [hF]; exact unhide B7))
  have A7 := hide (show Below (D + 1) w1 w7 from (unhide B4).trans ((unhide B7).mono (by have := (unhide B4).size; omega)))
  have G7 := hide (show Below w7.heap.size w7 w7.drew from (Below.refl _ _).drew)
  clear o7 g7 hn7 P6 O6 N6 B6 P4 R4 O4
  have V7 := hide ((unhide V1).later (by rw [hE]; exact unhide A7))
  have L7 := hide ((unhide L1).later (by rw [hE]; exact unhide A7))
  have Q7 := hide ((unhide P1).later (by rw [hE]; exact unhide A7))
  have m4 : n4 ≤ maxLen := by have := unhide M4; simp only [maxLen]; omega
  have m7 : n7 ≤ maxLen := by have := unhide M7; simp only [maxLen]; omega
  have m1 : n1 ≤ maxLen := by simp only [maxLen]; omega
  obtain ⟨d0, d1⟩ := unhide key w7 (by rw [hE]; exact unhide A7)
  have QXY := hide (show quorumM vs0 ls0 (l1 ++ l2) = quorumM vs0 ls0 (l2 ++ l1) from quorum_congr (fun x _ => by simp [or_comm]))
  have QAX := hide (show quorumM vs0 ls0 l1 = true → quorumM vs0 ls0 (l1 ++ l2) = true from quorum_more (fun x _ h => by simp [h]))
  clear c0 c1'
  go_wp2_with fail
  cases hqx : quorumM vs0 ls0 (l1 ++ l2) <;> cases hqa : quorumM vs0 ls0 l1
  case false.true =>
    have := unhide QAX hqa
    rw [hqx] at this
    cases this
  case true.true =>
    have hqy := hide ((unhide QXY).symm.trans hqx)
    refine wp_region_held_drew (S := fun w' => w'.cell? ⟨D, 0, none⟩ = some (.slice va0 vn vc0) ∧ w'.cell? ⟨D, 1, none⟩ = some (.slice la0 ln lc0)) (by kernel_rfl) ?_ (fun hHeld => ?_)
    · try dsimp only
      exact ⟨cell_later (unhide (by assumption : Hid (Below w7.heap.size w7 _))) d0, cell_later (unhide (by assumption : Hid (Below w7.heap.size w7 _))) d1⟩
    refine held_one 0 (oi := { dst := some 19, op := Op.call { callee := Callee.value (Operand.func 16), args := #[], argTypes := #[] }, type := 4, pos := "law.go:84", after := #[], guard := none }) (by kernel_rfl) rfl (fun K hK => ?_)
    go_simp
    first
      | (go_at_call 16
         refine (live3_calls _).mono ?_
         rintro e W2 ⟨rfl, b2⟩
         have B2 := hide (Below.trans (unhide (by assumption : Hid (Below w7.heap.size w7 _))) (b2.mono (Below.size (unhide (by assumption : Hid (Below w7.heap.size w7 _))))))
         clear b2)
      | (go_at_call_of 25 (Value.slice a1 n1 c1)
         refine (quorum_calls ((unhide V7).later (unhide (by assumption : Hid (Below w7.heap.size w7 _)))) ((unhide L7).later (unhide (by assumption : Hid (Below w7.heap.size w7 _)))) ((unhide Q7).later (unhide (by assumption : Hid (Below w7.heap.size w7 _)))) vn ln n1 (unhide VN) (unhide LN) (unhide N1) hsv0 hsl0 m1).mono ?_
         rw [hqa]
         rintro e W2 ⟨rfl, b2⟩
         have B2 := hide (Below.trans (unhide (by assumption : Hid (Below w7.heap.size w7 _))) (b2.mono (Below.size (unhide (by assumption : Hid (Below w7.heap.size w7 _))))))
         clear b2)
      | (go_at_call_of 25 (Value.slice sp4 n4 k4)
         refine (quorum_calls ((unhide V7).later (unhide (by assumption : Hid (Below w7.heap.size w7 _)))) ((unhide L7).later (unhide (by assumption : Hid (Below w7.heap.size w7 _)))) ((unhide X7).later (unhide (by assumption : Hid (Below w7.heap.size w7 _)))) vn ln n4 (unhide VN) (unhide LN) (unhide N4) hsv0 hsl0 m4).mono ?_
         rw [hqx]
         rintro e W2 ⟨rfl, b2⟩
         have B2 := hide (Below.trans (unhide (by assumption : Hid (Below w7.heap.size w7 _))) (b2.mono (Below.size (unhide (by assumption : Hid (Below w7.heap.size w7 _))))))
         clear b2)
      | (go_at_call_of 25 (Value.slice sp7 n7 k7)
         refine (quorum_calls ((unhide V7).later (unhide (by assumption : Hid (Below w7.heap.size w7 _)))) ((unhide L7).later (unhide (by assumption : Hid (Below w7.heap.size w7 _)))) ((unhide Y7).later (unhide (by assumption : Hid (Below w7.heap.size w7 _)))) vn ln n7 (unhide VN) (unhide LN) (unhide N7) hsv0 hsl0 m7).mono ?_
         rw [unhide hqy]
         rintro e W2 ⟨rfl, b2⟩
         have B2 := hide (Below.trans (unhide (by assumption : Hid (Below w7.heap.size w7 _))) (b2.mono (Below.size (unhide (by assumption : Hid (Below w7.heap.size w7 _))))))
         clear b2)
    go_wp2_with fail
    refine hK.out _ _ ?_ (fun hHeld => ?_)
    · try dsimp only
      exact ⟨cell_later (unhide (by assumption : Hid (Below w7.heap.size w7 _))) d0, cell_later (unhide (by assumption : Hid (Below w7.heap.size w7 _))) d1⟩
    clear hK K
    try simp only [Act.put, List.setIfInBounds_toArray, List.set_cons_zero, List.set_cons_succ]
    refine held_take 1 (oi := { dst := some 20, op := Op.move (Operand.tmp 19), type := 4, pos := "law.go:84", after := #[{ on := 0, ground := Ground.data }, { on := 0, ground := Ground.chain }], guard := none }) (v := ?_) (by kernel_rfl) rfl (by rfl) (by kernel_rfl) (by kernel_rfl) (fun _ _ _ h => h) ?_ (by assumption) ?_
    rotate_left
    · (intro w hSw; (try dsimp only at hSw); go_simp; try with_reducible rfl)
    try simp only [Act.put, List.setIfInBounds_toArray, List.set_cons_zero, List.set_cons_succ]
    refine held_take 2 (oi := { dst := some 21, op := Op.load 24 (Operand.tmp 3), type := 24, pos := "law.go:84", after := #[{ on := 1, ground := Ground.guard }], guard := some (1, true) }) (v := ?_) (by kernel_rfl) rfl (by rfl) (by kernel_rfl) (by kernel_rfl) (fun _ _ _ h => h) ?_ (by assumption) ?_
    rotate_left
    · (intro w hSw; (try dsimp only at hSw); go_simp; try with_reducible rfl)
    try simp only [Act.put, List.setIfInBounds_toArray, List.set_cons_zero, List.set_cons_succ]
    refine held_take 3 (oi := { dst := some 22, op := Op.move (Operand.tmp 1), type := 22, pos := "law.go:84", after := #[{ on := 1, ground := Ground.guard }], guard := some (1, true) }) (v := ?_) (by kernel_rfl) rfl (by rfl) (by kernel_rfl) (by kernel_rfl) (fun _ _ _ h => h) ?_ (by assumption) ?_
    rotate_left
    · (intro w hSw; (try dsimp only at hSw); go_simp; try with_reducible rfl)
    try simp only [Act.put, List.setIfInBounds_toArray, List.set_cons_zero, List.set_cons_succ]
    refine held_one 4 (oi := { dst := some 23, op := Op.call { callee := Callee.value (Operand.func 25), args := #[Operand.tmp 21, Operand.tmp 22], argTypes := #[24, 22] }, type := 4, pos := "law.go:84", after := #[{ on := 2, ground := Ground.data }, { on := 3, ground := Ground.data }, { on := 1, ground := Ground.chain }, { on := 1, ground := Ground.guard }], guard := some (1, true) }) (by kernel_rfl) rfl (fun K hK => ?_)
    go_simp
    first
      | (go_at_call 16
         refine (live3_calls _).mono ?_
         rintro e W2 ⟨rfl, b2⟩
         have B2 := hide (Below.trans (unhide (by assumption : Hid (Below w7.heap.size w7 _))) (b2.mono (Below.size (unhide (by assumption : Hid (Below w7.heap.size w7 _))))))
         clear b2)
      | (go_at_call_of 25 (Value.slice a1 n1 c1)
         refine (quorum_calls ((unhide V7).later (unhide (by assumption : Hid (Below w7.heap.size w7 _)))) ((unhide L7).later (unhide (by assumption : Hid (Below w7.heap.size w7 _)))) ((unhide Q7).later (unhide (by assumption : Hid (Below w7.heap.size w7 _)))) vn ln n1 (unhide VN) (unhide LN) (unhide N1) hsv0 hsl0 m1).mono ?_
         rw [hqa]
         rintro e W2 ⟨rfl, b2⟩
         have B2 := hide (Below.trans (unhide (by assumption : Hid (Below w7.heap.size w7 _))) (b2.mono (Below.size (unhide (by assumption : Hid (Below w7.heap.size w7 _))))))
         clear b2)
      | (go_at_call_of 25 (Value.slice sp4 n4 k4)
         refine (quorum_calls ((unhide V7).later (unhide (by assumption : Hid (Below w7.heap.size w7 _)))) ((unhide L7).later (unhide (by assumption : Hid (Below w7.heap.size w7 _)))) ((unhide X7).later (unhide (by assumption : Hid (Below w7.heap.size w7 _)))) vn ln n4 (unhide VN) (unhide LN) (unhide N4) hsv0 hsl0 m4).mono ?_
         rw [hqx]
         rintro e W2 ⟨rfl, b2⟩
         have B2 := hide (Below.trans (unhide (by assumption : Hid (Below w7.heap.size w7 _))) (b2.mono (Below.size (unhide (by assumption : Hid (Below w7.heap.size w7 _))))))
         clear b2)
      | (go_at_call_of 25 (Value.slice sp7 n7 k7)
         refine (quorum_calls ((unhide V7).later (unhide (by assumption : Hid (Below w7.heap.size w7 _)))) ((unhide L7).later (unhide (by assumption : Hid (Below w7.heap.size w7 _)))) ((unhide Y7).later (unhide (by assumption : Hid (Below w7.heap.size w7 _)))) vn ln n7 (unhide VN) (unhide LN) (unhide N7) hsv0 hsl0 m7).mono ?_
         rw [unhide hqy]
         rintro e W2 ⟨rfl, b2⟩
         have B2 := hide (Below.trans (unhide (by assumption : Hid (Below w7.heap.size w7 _))) (b2.mono (Below.size (unhide (by assumption : Hid (Below w7.heap.size w7 _))))))
         clear b2)
    go_wp2_with fail
    refine hK.out _ _ ?_ (fun hHeld => ?_)
    · try dsimp only
      exact ⟨cell_later (unhide (by assumption : Hid (Below w7.heap.size w7 _))) d0, cell_later (unhide (by assumption : Hid (Below w7.heap.size w7 _))) d1⟩
    clear hK K
    try simp only [Act.put, List.setIfInBounds_toArray, List.set_cons_zero, List.set_cons_succ]
    refine held_take 5 (oi := { dst := some 24, op := Op.unOp UnOp.not 4 (Operand.tmp 23), type := 4, pos := "law.go:84", after := #[{ on := 4, ground := Ground.data }, { on := 1, ground := Ground.guard }], guard := some (1, true) }) (v := ?_) (by kernel_rfl) rfl (by rfl) (by kernel_rfl) (by kernel_rfl) (fun _ _ _ h => h) ?_ (by assumption) ?_
    rotate_left
    · (intro w hSw; (try dsimp only at hSw); go_simp; try with_reducible rfl)
    try simp only [Act.put, List.setIfInBounds_toArray, List.set_cons_zero, List.set_cons_succ]
    refine held_take 6 (oi := { dst := some 25, op := Op.move (Operand.tmp 24), type := 4, pos := "law.go:84", after := #[{ on := 5, ground := Ground.data }, { on := 4, ground := Ground.chain }, { on := 1, ground := Ground.guard }], guard := some (1, true) }) (v := ?_) (by kernel_rfl) rfl (by rfl) (by kernel_rfl) (by kernel_rfl) (fun _ _ _ h => h) ?_ (by assumption) ?_
    rotate_left
    · (intro w hSw; (try dsimp only at hSw); go_simp; try with_reducible rfl)
    try simp only [Act.put, List.setIfInBounds_toArray, List.set_cons_zero, List.set_cons_succ]
    refine held_take 7 (oi := { dst := some 26, op := Op.load 24 (Operand.tmp 3), type := 24, pos := "law.go:84", after := #[{ on := 6, ground := Ground.guard }], guard := some (6, false) }) (v := ?_) (by kernel_rfl) rfl (by rfl) (by kernel_rfl) (by kernel_rfl) (fun _ _ _ h => h) ?_ (by assumption) ?_
    rotate_left
    · (intro w hSw; (try dsimp only at hSw); go_simp; try with_reducible rfl)
    try simp only [Act.put, List.setIfInBounds_toArray, List.set_cons_zero, List.set_cons_succ]
    refine held_take 8 (oi := { dst := some 27, op := Op.move (Operand.tmp 7), type := 22, pos := "law.go:84", after := #[{ on := 6, ground := Ground.guard }], guard := some (6, false) }) (v := ?_) (by kernel_rfl) rfl (by rfl) (by kernel_rfl) (by kernel_rfl) (fun _ _ _ h => h) ?_ (by assumption) ?_
    rotate_left
    · (intro w hSw; (try dsimp only at hSw); go_simp; try with_reducible rfl)
    try simp only [Act.put, List.setIfInBounds_toArray, List.set_cons_zero, List.set_cons_succ]
    refine held_one 9 (oi := { dst := some 28, op := Op.call { callee := Callee.value (Operand.func 25), args := #[Operand.tmp 26, Operand.tmp 27], argTypes := #[24, 22] }, type := 4, pos := "law.go:84", after := #[{ on := 7, ground := Ground.data }, { on := 8, ground := Ground.data }, { on := 6, ground := Ground.chain }, { on := 6, ground := Ground.guard }], guard := some (6, false) }) (by kernel_rfl) rfl (fun K hK => ?_)
    go_simp
    first
      | (go_at_call 16
         refine (live3_calls _).mono ?_
         rintro e W2 ⟨rfl, b2⟩
         have B2 := hide (Below.trans (unhide (by assumption : Hid (Below w7.heap.size w7 _))) (b2.mono (Below.size (unhide (by assumption : Hid (Below w7.heap.size w7 _))))))
         clear b2)
      | (go_at_call_of 25 (Value.slice a1 n1 c1)
         refine (quorum_calls ((unhide V7).later (unhide (by assumption : Hid (Below w7.heap.size w7 _)))) ((unhide L7).later (unhide (by assumption : Hid (Below w7.heap.size w7 _)))) ((unhide Q7).later (unhide (by assumption : Hid (Below w7.heap.size w7 _)))) vn ln n1 (unhide VN) (unhide LN) (unhide N1) hsv0 hsl0 m1).mono ?_
         rw [hqa]
         rintro e W2 ⟨rfl, b2⟩
         have B2 := hide (Below.trans (unhide (by assumption : Hid (Below w7.heap.size w7 _))) (b2.mono (Below.size (unhide (by assumption : Hid (Below w7.heap.size w7 _))))))
         clear b2)
      | (go_at_call_of 25 (Value.slice sp4 n4 k4)
         refine (quorum_calls ((unhide V7).later (unhide (by assumption : Hid (Below w7.heap.size w7 _)))) ((unhide L7).later (unhide (by assumption : Hid (Below w7.heap.size w7 _)))) ((unhide X7).later (unhide (by assumption : Hid (Below w7.heap.size w7 _)))) vn ln n4 (unhide VN) (unhide LN) (unhide N4) hsv0 hsl0 m4).mono ?_
         rw [hqx]
         rintro e W2 ⟨rfl, b2⟩
         have B2 := hide (Below.trans (unhide (by assumption : Hid (Below w7.heap.size w7 _))) (b2.mono (Below.size (unhide (by assumption : Hid (Below w7.heap.size w7 _))))))
         clear b2)
      | (go_at_call_of 25 (Value.slice sp7 n7 k7)
         refine (quorum_calls ((unhide V7).later (unhide (by assumption : Hid (Below w7.heap.size w7 _)))) ((unhide L7).later (unhide (by assumption : Hid (Below w7.heap.size w7 _)))) ((unhide Y7).later (unhide (by assumption : Hid (Below w7.heap.size w7 _)))) vn ln n7 (unhide VN) (unhide LN) (unhide N7) hsv0 hsl0 m7).mono ?_
         rw [unhide hqy]
         rintro e W2 ⟨rfl, b2⟩
         have B2 := hide (Below.trans (unhide (by assumption : Hid (Below w7.heap.size w7 _))) (b2.mono (Below.size (unhide (by assumption : Hid (Below w7.heap.size w7 _))))))
         clear b2)
    go_wp2_with fail
    refine hK.out _ _ ?_ (fun hHeld => ?_)
    · try dsimp only
      exact ⟨cell_later (unhide (by assumption : Hid (Below w7.heap.size w7 _))) d0, cell_later (unhide (by assumption : Hid (Below w7.heap.size w7 _))) d1⟩
    clear hK K
    try simp only [Act.put, List.setIfInBounds_toArray, List.set_cons_zero, List.set_cons_succ]
    refine held_take 10 (oi := { dst := some 29, op := Op.pick (Operand.tmp 25) (Operand.const (Value.bool true)) (Operand.tmp 28), type := 4, pos := "law.go:84", after := #[{ on := 6, ground := Ground.data }, { on := 9, ground := Ground.data }, { on := 1, ground := Ground.guard }], guard := some (1, true) }) (v := ?_) (by kernel_rfl) rfl (by rfl) (by kernel_rfl) (by kernel_rfl) (fun _ _ _ h => h) ?_ (by assumption) ?_
    rotate_left
    · (intro w hSw; (try dsimp only at hSw); go_simp; try with_reducible rfl)
    try simp only [Act.put, List.setIfInBounds_toArray, List.set_cons_zero, List.set_cons_succ]
    refine held_take 11 (oi := { dst := some 30, op := Op.pick (Operand.tmp 20) (Operand.tmp 29) (Operand.const (Value.bool false)), type := 4, pos := "law.go:84", after := #[{ on := 1, ground := Ground.data }, { on := 10, ground := Ground.data }], guard := none }) (v := ?_) (by kernel_rfl) rfl (by rfl) (by kernel_rfl) (by kernel_rfl) (fun _ _ _ h => h) ?_ (by assumption) ?_
    rotate_left
    · (intro w hSw; (try dsimp only at hSw); go_simp; try with_reducible rfl)
    try simp only [Act.put, List.setIfInBounds_toArray, List.set_cons_zero, List.set_cons_succ]
    refine held_take 12 (oi := { dst := some 31, op := Op.move (Operand.tmp 30), type := 4, pos := "law.go:84", after := #[{ on := 11, ground := Ground.data }, { on := 9, ground := Ground.chain }], guard := none }) (v := ?_) (by kernel_rfl) rfl (by rfl) (by kernel_rfl) (by kernel_rfl) (fun _ _ _ h => h) ?_ (by assumption) ?_
    rotate_left
    · (intro w hSw; (try dsimp only at hSw); go_simp; try with_reducible rfl)
    try simp only [Act.put, List.setIfInBounds_toArray, List.set_cons_zero, List.set_cons_succ]
    refine held_take 13 (oi := { dst := some 32, op := Op.load 24 (Operand.tmp 3), type := 24, pos := "law.go:84", after := #[{ on := 12, ground := Ground.guard }], guard := some (12, true) }) (v := ?_) (by kernel_rfl) rfl (by rfl) (by kernel_rfl) (by kernel_rfl) (fun _ _ _ h => h) ?_ (by assumption) ?_
    rotate_left
    · (intro w hSw; (try dsimp only at hSw); go_simp; try with_reducible rfl)
    try simp only [Act.put, List.setIfInBounds_toArray, List.set_cons_zero, List.set_cons_succ]
    refine held_take 14 (oi := { dst := some 33, op := Op.move (Operand.tmp 7), type := 22, pos := "law.go:84", after := #[{ on := 12, ground := Ground.guard }], guard := some (12, true) }) (v := ?_) (by kernel_rfl) rfl (by rfl) (by kernel_rfl) (by kernel_rfl) (fun _ _ _ h => h) ?_ (by assumption) ?_
    rotate_left
    · (intro w hSw; (try dsimp only at hSw); go_simp; try with_reducible rfl)
    try simp only [Act.put, List.setIfInBounds_toArray, List.set_cons_zero, List.set_cons_succ]
    refine held_take 16 (oi := { dst := some 35, op := Op.load 24 (Operand.tmp 3), type := 24, pos := "law.go:84", after := #[{ on := 12, ground := Ground.guard }], guard := some (12, true) }) (v := ?_) (by kernel_rfl) rfl (by rfl) (by kernel_rfl) (by kernel_rfl) (fun _ _ _ h => h) ?_ (by assumption) ?_
    rotate_left
    · (intro w hSw; (try dsimp only at hSw); go_simp; try with_reducible rfl)
    try simp only [Act.put, List.setIfInBounds_toArray, List.set_cons_zero, List.set_cons_succ]
    refine held_take 17 (oi := { dst := some 36, op := Op.move (Operand.tmp 8), type := 22, pos := "law.go:84", after := #[{ on := 12, ground := Ground.guard }], guard := some (12, true) }) (v := ?_) (by kernel_rfl) rfl (by rfl) (by kernel_rfl) (by kernel_rfl) (fun _ _ _ h => h) ?_ (by assumption) ?_
    rotate_left
    · (intro w hSw; (try dsimp only at hSw); go_simp; try with_reducible rfl)
    try simp only [Act.put, List.setIfInBounds_toArray, List.set_cons_zero, List.set_cons_succ]
    refine held_one 15 (oi := { dst := some 34, op := Op.call { callee := Callee.value (Operand.func 25), args := #[Operand.tmp 32, Operand.tmp 33], argTypes := #[24, 22] }, type := 4, pos := "law.go:84", after := #[{ on := 13, ground := Ground.data }, { on := 14, ground := Ground.data }, { on := 12, ground := Ground.chain }, { on := 12, ground := Ground.guard }], guard := some (12, true) }) (by kernel_rfl) rfl (fun K hK => ?_)
    go_simp
    first
      | (go_at_call 16
         refine (live3_calls _).mono ?_
         rintro e W2 ⟨rfl, b2⟩
         have B2 := hide (Below.trans (unhide (by assumption : Hid (Below w7.heap.size w7 _))) (b2.mono (Below.size (unhide (by assumption : Hid (Below w7.heap.size w7 _))))))
         clear b2)
      | (go_at_call_of 25 (Value.slice a1 n1 c1)
         refine (quorum_calls ((unhide V7).later (unhide (by assumption : Hid (Below w7.heap.size w7 _)))) ((unhide L7).later (unhide (by assumption : Hid (Below w7.heap.size w7 _)))) ((unhide Q7).later (unhide (by assumption : Hid (Below w7.heap.size w7 _)))) vn ln n1 (unhide VN) (unhide LN) (unhide N1) hsv0 hsl0 m1).mono ?_
         rw [hqa]
         rintro e W2 ⟨rfl, b2⟩
         have B2 := hide (Below.trans (unhide (by assumption : Hid (Below w7.heap.size w7 _))) (b2.mono (Below.size (unhide (by assumption : Hid (Below w7.heap.size w7 _))))))
         clear b2)
      | (go_at_call_of 25 (Value.slice sp4 n4 k4)
         refine (quorum_calls ((unhide V7).later (unhide (by assumption : Hid (Below w7.heap.size w7 _)))) ((unhide L7).later (unhide (by assumption : Hid (Below w7.heap.size w7 _)))) ((unhide X7).later (unhide (by assumption : Hid (Below w7.heap.size w7 _)))) vn ln n4 (unhide VN) (unhide LN) (unhide N4) hsv0 hsl0 m4).mono ?_
         rw [hqx]
         rintro e W2 ⟨rfl, b2⟩
         have B2 := hide (Below.trans (unhide (by assumption : Hid (Below w7.heap.size w7 _))) (b2.mono (Below.size (unhide (by assumption : Hid (Below w7.heap.size w7 _))))))
         clear b2)
      | (go_at_call_of 25 (Value.slice sp7 n7 k7)
         refine (quorum_calls ((unhide V7).later (unhide (by assumption : Hid (Below w7.heap.size w7 _)))) ((unhide L7).later (unhide (by assumption : Hid (Below w7.heap.size w7 _)))) ((unhide Y7).later (unhide (by assumption : Hid (Below w7.heap.size w7 _)))) vn ln n7 (unhide VN) (unhide LN) (unhide N7) hsv0 hsl0 m7).mono ?_
         rw [unhide hqy]
         rintro e W2 ⟨rfl, b2⟩
         have B2 := hide (Below.trans (unhide (by assumption : Hid (Below w7.heap.size w7 _))) (b2.mono (Below.size (unhide (by assumption : Hid (Below w7.heap.size w7 _))))))
         clear b2)
    go_wp2_with fail
    refine hK.out _ _ ?_ (fun hHeld => ?_)
    · try dsimp only
      exact ⟨cell_later (unhide (by assumption : Hid (Below w7.heap.size w7 _))) d0, cell_later (unhide (by assumption : Hid (Below w7.heap.size w7 _))) d1⟩
    clear hK K
    try simp only [Act.put, List.setIfInBounds_toArray, List.set_cons_zero, List.set_cons_succ]
    refine held_one 18 (oi := { dst := some 37, op := Op.call { callee := Callee.value (Operand.func 25), args := #[Operand.tmp 35, Operand.tmp 36], argTypes := #[24, 22] }, type := 4, pos := "law.go:84", after := #[{ on := 16, ground := Ground.data }, { on := 17, ground := Ground.data }, { on := 15, ground := Ground.chain }, { on := 12, ground := Ground.guard }], guard := some (12, true) }) (by kernel_rfl) rfl (fun K hK => ?_)
    go_simp
    first
      | (go_at_call 16
         refine (live3_calls _).mono ?_
         rintro e W2 ⟨rfl, b2⟩
         have B2 := hide (Below.trans (unhide (by assumption : Hid (Below w7.heap.size w7 _))) (b2.mono (Below.size (unhide (by assumption : Hid (Below w7.heap.size w7 _))))))
         clear b2)
      | (go_at_call_of 25 (Value.slice a1 n1 c1)
         refine (quorum_calls ((unhide V7).later (unhide (by assumption : Hid (Below w7.heap.size w7 _)))) ((unhide L7).later (unhide (by assumption : Hid (Below w7.heap.size w7 _)))) ((unhide Q7).later (unhide (by assumption : Hid (Below w7.heap.size w7 _)))) vn ln n1 (unhide VN) (unhide LN) (unhide N1) hsv0 hsl0 m1).mono ?_
         rw [hqa]
         rintro e W2 ⟨rfl, b2⟩
         have B2 := hide (Below.trans (unhide (by assumption : Hid (Below w7.heap.size w7 _))) (b2.mono (Below.size (unhide (by assumption : Hid (Below w7.heap.size w7 _))))))
         clear b2)
      | (go_at_call_of 25 (Value.slice sp4 n4 k4)
         refine (quorum_calls ((unhide V7).later (unhide (by assumption : Hid (Below w7.heap.size w7 _)))) ((unhide L7).later (unhide (by assumption : Hid (Below w7.heap.size w7 _)))) ((unhide X7).later (unhide (by assumption : Hid (Below w7.heap.size w7 _)))) vn ln n4 (unhide VN) (unhide LN) (unhide N4) hsv0 hsl0 m4).mono ?_
         rw [hqx]
         rintro e W2 ⟨rfl, b2⟩
         have B2 := hide (Below.trans (unhide (by assumption : Hid (Below w7.heap.size w7 _))) (b2.mono (Below.size (unhide (by assumption : Hid (Below w7.heap.size w7 _))))))
         clear b2)
      | (go_at_call_of 25 (Value.slice sp7 n7 k7)
         refine (quorum_calls ((unhide V7).later (unhide (by assumption : Hid (Below w7.heap.size w7 _)))) ((unhide L7).later (unhide (by assumption : Hid (Below w7.heap.size w7 _)))) ((unhide Y7).later (unhide (by assumption : Hid (Below w7.heap.size w7 _)))) vn ln n7 (unhide VN) (unhide LN) (unhide N7) hsv0 hsl0 m7).mono ?_
         rw [unhide hqy]
         rintro e W2 ⟨rfl, b2⟩
         have B2 := hide (Below.trans (unhide (by assumption : Hid (Below w7.heap.size w7 _))) (b2.mono (Below.size (unhide (by assumption : Hid (Below w7.heap.size w7 _))))))
         clear b2)
    go_wp2_with fail
    refine hK.out _ _ ?_ (fun hHeld => ?_)
    · try dsimp only
      exact ⟨cell_later (unhide (by assumption : Hid (Below w7.heap.size w7 _))) d0, cell_later (unhide (by assumption : Hid (Below w7.heap.size w7 _))) d1⟩
    clear hK K
    try simp only [Act.put, List.setIfInBounds_toArray, List.set_cons_zero, List.set_cons_succ]
    refine held_take 19 (oi := { dst := some 38, op := Op.binOp BinOp.eql 4 (Operand.tmp 34) (Operand.tmp 37) 4, type := 4, pos := "law.go:84", after := #[{ on := 15, ground := Ground.data }, { on := 18, ground := Ground.data }, { on := 12, ground := Ground.guard }], guard := some (12, true) }) (v := ?_) (by kernel_rfl) rfl (by rfl) (by kernel_rfl) (by kernel_rfl) (fun _ _ _ h => h) ?_ (by assumption) ?_
    rotate_left
    · (intro w hSw; (try dsimp only at hSw); go_simp; try with_reducible rfl)
    try simp only [Act.put, List.setIfInBounds_toArray, List.set_cons_zero, List.set_cons_succ]
    refine held_take 20 (oi := { dst := some 39, op := Op.pick (Operand.tmp 31) (Operand.tmp 38) (Operand.const (Value.bool false)), type := 4, pos := "law.go:84", after := #[{ on := 12, ground := Ground.data }, { on := 19, ground := Ground.data }], guard := none }) (v := ?_) (by kernel_rfl) rfl (by rfl) (by kernel_rfl) (by kernel_rfl) (fun _ _ _ h => h) ?_ (by assumption) ?_
    rotate_left
    · (intro w hSw; (try dsimp only at hSw); go_simp; try with_reducible rfl)
    try simp only [Act.put, List.setIfInBounds_toArray, List.set_cons_zero, List.set_cons_succ]
    refine held_take 21 (oi := { dst := some 6, op := Op.assign (Operand.tmp 39), type := 4, pos := "law.go:84", after := #[{ on := 20, ground := Ground.data }, { on := 18, ground := Ground.chain }, { on := 0, ground := Ground.phase }, { on := 1, ground := Ground.phase }, { on := 2, ground := Ground.phase }, { on := 3, ground := Ground.phase }, { on := 4, ground := Ground.phase }, { on := 5, ground := Ground.phase }, { on := 6, ground := Ground.phase }, { on := 7, ground := Ground.phase }, { on := 8, ground := Ground.phase }, { on := 9, ground := Ground.phase }, { on := 10, ground := Ground.phase }, { on := 11, ground := Ground.phase }, { on := 12, ground := Ground.phase }, { on := 13, ground := Ground.phase }, { on := 14, ground := Ground.phase }, { on := 15, ground := Ground.phase }, { on := 16, ground := Ground.phase }, { on := 17, ground := Ground.phase }, { on := 18, ground := Ground.phase }, { on := 19, ground := Ground.phase }, { on := 20, ground := Ground.phase }], guard := none }) (v := ?_) (by kernel_rfl) rfl (by rfl) (by kernel_rfl) (by kernel_rfl) (fun _ _ _ h => h) ?_ (by assumption) ?_
    rotate_left
    · (intro w hSw; (try dsimp only at hSw); go_simp; try with_reducible rfl)
    try simp only [Act.put, List.setIfInBounds_toArray, List.set_cons_zero, List.set_cons_succ]
    refine wpAnyH_done (by kernel_rfl) ?_ _
    all_goals
      go_wp2
      go_ret
      exact ⟨rfl, by rw [hD]; exact (unhide b1).trans ((Below.trans (unhide A7) ((unhide (by assumption : Hid (Below w7.heap.size w7 _))).mono (by have := (unhide A7).size; omega))).mono (by have := (unhide b1).size; omega))⟩
  all_goals
    have hqy := hide ((unhide QXY).symm.trans hqx)
    refine wp_region_held_drew (S := fun w' => w'.cell? ⟨D, 0, none⟩ = some (.slice va0 vn vc0) ∧ w'.cell? ⟨D, 1, none⟩ = some (.slice la0 ln lc0)) (by kernel_rfl) ?_ (fun hHeld => ?_)
    · try dsimp only
      exact ⟨cell_later (unhide (by assumption : Hid (Below w7.heap.size w7 _))) d0, cell_later (unhide (by assumption : Hid (Below w7.heap.size w7 _))) d1⟩
    refine held_one 0 (oi := { dst := some 19, op := Op.call { callee := Callee.value (Operand.func 16), args := #[], argTypes := #[] }, type := 4, pos := "law.go:84", after := #[], guard := none }) (by kernel_rfl) rfl (fun K hK => ?_)
    go_simp
    first
      | (go_at_call 16
         refine (live3_calls _).mono ?_
         rintro e W2 ⟨rfl, b2⟩
         have B2 := hide (Below.trans (unhide (by assumption : Hid (Below w7.heap.size w7 _))) (b2.mono (Below.size (unhide (by assumption : Hid (Below w7.heap.size w7 _))))))
         clear b2)
      | (go_at_call_of 25 (Value.slice a1 n1 c1)
         refine (quorum_calls ((unhide V7).later (unhide (by assumption : Hid (Below w7.heap.size w7 _)))) ((unhide L7).later (unhide (by assumption : Hid (Below w7.heap.size w7 _)))) ((unhide Q7).later (unhide (by assumption : Hid (Below w7.heap.size w7 _)))) vn ln n1 (unhide VN) (unhide LN) (unhide N1) hsv0 hsl0 m1).mono ?_
         rw [hqa]
         rintro e W2 ⟨rfl, b2⟩
         have B2 := hide (Below.trans (unhide (by assumption : Hid (Below w7.heap.size w7 _))) (b2.mono (Below.size (unhide (by assumption : Hid (Below w7.heap.size w7 _))))))
         clear b2)
      | (go_at_call_of 25 (Value.slice sp4 n4 k4)
         refine (quorum_calls ((unhide V7).later (unhide (by assumption : Hid (Below w7.heap.size w7 _)))) ((unhide L7).later (unhide (by assumption : Hid (Below w7.heap.size w7 _)))) ((unhide X7).later (unhide (by assumption : Hid (Below w7.heap.size w7 _)))) vn ln n4 (unhide VN) (unhide LN) (unhide N4) hsv0 hsl0 m4).mono ?_
         rw [hqx]
         rintro e W2 ⟨rfl, b2⟩
         have B2 := hide (Below.trans (unhide (by assumption : Hid (Below w7.heap.size w7 _))) (b2.mono (Below.size (unhide (by assumption : Hid (Below w7.heap.size w7 _))))))
         clear b2)
      | (go_at_call_of 25 (Value.slice sp7 n7 k7)
         refine (quorum_calls ((unhide V7).later (unhide (by assumption : Hid (Below w7.heap.size w7 _)))) ((unhide L7).later (unhide (by assumption : Hid (Below w7.heap.size w7 _)))) ((unhide Y7).later (unhide (by assumption : Hid (Below w7.heap.size w7 _)))) vn ln n7 (unhide VN) (unhide LN) (unhide N7) hsv0 hsl0 m7).mono ?_
         rw [unhide hqy]
         rintro e W2 ⟨rfl, b2⟩
         have B2 := hide (Below.trans (unhide (by assumption : Hid (Below w7.heap.size w7 _))) (b2.mono (Below.size (unhide (by assumption : Hid (Below w7.heap.size w7 _))))))
         clear b2)
    go_wp2_with fail
    refine hK.out _ _ ?_ (fun hHeld => ?_)
    · try dsimp only
      exact ⟨cell_later (unhide (by assumption : Hid (Below w7.heap.size w7 _))) d0, cell_later (unhide (by assumption : Hid (Below w7.heap.size w7 _))) d1⟩
    clear hK K
    try simp only [Act.put, List.setIfInBounds_toArray, List.set_cons_zero, List.set_cons_succ]
    refine held_take 1 (oi := { dst := some 20, op := Op.move (Operand.tmp 19), type := 4, pos := "law.go:84", after := #[{ on := 0, ground := Ground.data }, { on := 0, ground := Ground.chain }], guard := none }) (v := ?_) (by kernel_rfl) rfl (by rfl) (by kernel_rfl) (by kernel_rfl) (fun _ _ _ h => h) ?_ (by assumption) ?_
    rotate_left
    · (intro w hSw; (try dsimp only at hSw); go_simp; try with_reducible rfl)
    try simp only [Act.put, List.setIfInBounds_toArray, List.set_cons_zero, List.set_cons_succ]
    refine held_take 2 (oi := { dst := some 21, op := Op.load 24 (Operand.tmp 3), type := 24, pos := "law.go:84", after := #[{ on := 1, ground := Ground.guard }], guard := some (1, true) }) (v := ?_) (by kernel_rfl) rfl (by rfl) (by kernel_rfl) (by kernel_rfl) (fun _ _ _ h => h) ?_ (by assumption) ?_
    rotate_left
    · (intro w hSw; (try dsimp only at hSw); go_simp; try with_reducible rfl)
    try simp only [Act.put, List.setIfInBounds_toArray, List.set_cons_zero, List.set_cons_succ]
    refine held_take 3 (oi := { dst := some 22, op := Op.move (Operand.tmp 1), type := 22, pos := "law.go:84", after := #[{ on := 1, ground := Ground.guard }], guard := some (1, true) }) (v := ?_) (by kernel_rfl) rfl (by rfl) (by kernel_rfl) (by kernel_rfl) (fun _ _ _ h => h) ?_ (by assumption) ?_
    rotate_left
    · (intro w hSw; (try dsimp only at hSw); go_simp; try with_reducible rfl)
    try simp only [Act.put, List.setIfInBounds_toArray, List.set_cons_zero, List.set_cons_succ]
    refine held_one 4 (oi := { dst := some 23, op := Op.call { callee := Callee.value (Operand.func 25), args := #[Operand.tmp 21, Operand.tmp 22], argTypes := #[24, 22] }, type := 4, pos := "law.go:84", after := #[{ on := 2, ground := Ground.data }, { on := 3, ground := Ground.data }, { on := 1, ground := Ground.chain }, { on := 1, ground := Ground.guard }], guard := some (1, true) }) (by kernel_rfl) rfl (fun K hK => ?_)
    go_simp
    first
      | (go_at_call 16
         refine (live3_calls _).mono ?_
         rintro e W2 ⟨rfl, b2⟩
         have B2 := hide (Below.trans (unhide (by assumption : Hid (Below w7.heap.size w7 _))) (b2.mono (Below.size (unhide (by assumption : Hid (Below w7.heap.size w7 _))))))
         clear b2)
      | (go_at_call_of 25 (Value.slice a1 n1 c1)
         refine (quorum_calls ((unhide V7).later (unhide (by assumption : Hid (Below w7.heap.size w7 _)))) ((unhide L7).later (unhide (by assumption : Hid (Below w7.heap.size w7 _)))) ((unhide Q7).later (unhide (by assumption : Hid (Below w7.heap.size w7 _)))) vn ln n1 (unhide VN) (unhide LN) (unhide N1) hsv0 hsl0 m1).mono ?_
         rw [hqa]
         rintro e W2 ⟨rfl, b2⟩
         have B2 := hide (Below.trans (unhide (by assumption : Hid (Below w7.heap.size w7 _))) (b2.mono (Below.size (unhide (by assumption : Hid (Below w7.heap.size w7 _))))))
         clear b2)
      | (go_at_call_of 25 (Value.slice sp4 n4 k4)
         refine (quorum_calls ((unhide V7).later (unhide (by assumption : Hid (Below w7.heap.size w7 _)))) ((unhide L7).later (unhide (by assumption : Hid (Below w7.heap.size w7 _)))) ((unhide X7).later (unhide (by assumption : Hid (Below w7.heap.size w7 _)))) vn ln n4 (unhide VN) (unhide LN) (unhide N4) hsv0 hsl0 m4).mono ?_
         rw [hqx]
         rintro e W2 ⟨rfl, b2⟩
         have B2 := hide (Below.trans (unhide (by assumption : Hid (Below w7.heap.size w7 _))) (b2.mono (Below.size (unhide (by assumption : Hid (Below w7.heap.size w7 _))))))
         clear b2)
      | (go_at_call_of 25 (Value.slice sp7 n7 k7)
         refine (quorum_calls ((unhide V7).later (unhide (by assumption : Hid (Below w7.heap.size w7 _)))) ((unhide L7).later (unhide (by assumption : Hid (Below w7.heap.size w7 _)))) ((unhide Y7).later (unhide (by assumption : Hid (Below w7.heap.size w7 _)))) vn ln n7 (unhide VN) (unhide LN) (unhide N7) hsv0 hsl0 m7).mono ?_
         rw [unhide hqy]
         rintro e W2 ⟨rfl, b2⟩
         have B2 := hide (Below.trans (unhide (by assumption : Hid (Below w7.heap.size w7 _))) (b2.mono (Below.size (unhide (by assumption : Hid (Below w7.heap.size w7 _))))))
         clear b2)
    go_wp2_with fail
    refine hK.out _ _ ?_ (fun hHeld => ?_)
    · try dsimp only
      exact ⟨cell_later (unhide (by assumption : Hid (Below w7.heap.size w7 _))) d0, cell_later (unhide (by assumption : Hid (Below w7.heap.size w7 _))) d1⟩
    clear hK K
    try simp only [Act.put, List.setIfInBounds_toArray, List.set_cons_zero, List.set_cons_succ]
    refine held_take 5 (oi := { dst := some 24, op := Op.unOp UnOp.not 4 (Operand.tmp 23), type := 4, pos := "law.go:84", after := #[{ on := 4, ground := Ground.data }, { on := 1, ground := Ground.guard }], guard := some (1, true) }) (v := ?_) (by kernel_rfl) rfl (by rfl) (by kernel_rfl) (by kernel_rfl) (fun _ _ _ h => h) ?_ (by assumption) ?_
    rotate_left
    · (intro w hSw; (try dsimp only at hSw); go_simp; try with_reducible rfl)
    try simp only [Act.put, List.setIfInBounds_toArray, List.set_cons_zero, List.set_cons_succ]
    refine held_take 6 (oi := { dst := some 25, op := Op.move (Operand.tmp 24), type := 4, pos := "law.go:84", after := #[{ on := 5, ground := Ground.data }, { on := 4, ground := Ground.chain }, { on := 1, ground := Ground.guard }], guard := some (1, true) }) (v := ?_) (by kernel_rfl) rfl (by rfl) (by kernel_rfl) (by kernel_rfl) (fun _ _ _ h => h) ?_ (by assumption) ?_
    rotate_left
    · (intro w hSw; (try dsimp only at hSw); go_simp; try with_reducible rfl)
    try simp only [Act.put, List.setIfInBounds_toArray, List.set_cons_zero, List.set_cons_succ]
    refine held_skip 7 (oi := { dst := some 26, op := Op.load 24 (Operand.tmp 3), type := 24, pos := "law.go:84", after := #[{ on := 6, ground := Ground.guard }], guard := some (6, false) }) (by kernel_rfl) rfl (by rfl) (by kernel_rfl) (by kernel_rfl) (fun _ _ _ h => h) (by assumption) ?_
    try simp only [Act.put, List.setIfInBounds_toArray, List.set_cons_zero, List.set_cons_succ]
    refine held_skip 8 (oi := { dst := some 27, op := Op.move (Operand.tmp 7), type := 22, pos := "law.go:84", after := #[{ on := 6, ground := Ground.guard }], guard := some (6, false) }) (by kernel_rfl) rfl (by rfl) (by kernel_rfl) (by kernel_rfl) (fun _ _ _ h => h) (by assumption) ?_
    try simp only [Act.put, List.setIfInBounds_toArray, List.set_cons_zero, List.set_cons_succ]
    refine held_none 9 (oi := { dst := some 28, op := Op.call { callee := Callee.value (Operand.func 25), args := #[Operand.tmp 26, Operand.tmp 27], argTypes := #[24, 22] }, type := 4, pos := "law.go:84", after := #[{ on := 7, ground := Ground.data }, { on := 8, ground := Ground.data }, { on := 6, ground := Ground.chain }, { on := 6, ground := Ground.guard }], guard := some (6, false) }) (by kernel_rfl) rfl (by rfl) (by assumption) ?_
    try simp only [Act.put, List.setIfInBounds_toArray, List.set_cons_zero, List.set_cons_succ]
    refine held_take 10 (oi := { dst := some 29, op := Op.pick (Operand.tmp 25) (Operand.const (Value.bool true)) (Operand.tmp 28), type := 4, pos := "law.go:84", after := #[{ on := 6, ground := Ground.data }, { on := 9, ground := Ground.data }, { on := 1, ground := Ground.guard }], guard := some (1, true) }) (v := ?_) (by kernel_rfl) rfl (by rfl) (by kernel_rfl) (by kernel_rfl) (fun _ _ _ h => h) ?_ (by assumption) ?_
    rotate_left
    · (intro w hSw; (try dsimp only at hSw); go_simp; try with_reducible rfl)
    try simp only [Act.put, List.setIfInBounds_toArray, List.set_cons_zero, List.set_cons_succ]
    refine held_take 11 (oi := { dst := some 30, op := Op.pick (Operand.tmp 20) (Operand.tmp 29) (Operand.const (Value.bool false)), type := 4, pos := "law.go:84", after := #[{ on := 1, ground := Ground.data }, { on := 10, ground := Ground.data }], guard := none }) (v := ?_) (by kernel_rfl) rfl (by rfl) (by kernel_rfl) (by kernel_rfl) (fun _ _ _ h => h) ?_ (by assumption) ?_
    rotate_left
    · (intro w hSw; (try dsimp only at hSw); go_simp; try with_reducible rfl)
    try simp only [Act.put, List.setIfInBounds_toArray, List.set_cons_zero, List.set_cons_succ]
    refine held_take 12 (oi := { dst := some 31, op := Op.move (Operand.tmp 30), type := 4, pos := "law.go:84", after := #[{ on := 11, ground := Ground.data }, { on := 9, ground := Ground.chain }], guard := none }) (v := ?_) (by kernel_rfl) rfl (by rfl) (by kernel_rfl) (by kernel_rfl) (fun _ _ _ h => h) ?_ (by assumption) ?_
    rotate_left
    · (intro w hSw; (try dsimp only at hSw); go_simp; try with_reducible rfl)
    try simp only [Act.put, List.setIfInBounds_toArray, List.set_cons_zero, List.set_cons_succ]
    refine held_take 13 (oi := { dst := some 32, op := Op.load 24 (Operand.tmp 3), type := 24, pos := "law.go:84", after := #[{ on := 12, ground := Ground.guard }], guard := some (12, true) }) (v := ?_) (by kernel_rfl) rfl (by rfl) (by kernel_rfl) (by kernel_rfl) (fun _ _ _ h => h) ?_ (by assumption) ?_
    rotate_left
    · (intro w hSw; (try dsimp only at hSw); go_simp; try with_reducible rfl)
    try simp only [Act.put, List.setIfInBounds_toArray, List.set_cons_zero, List.set_cons_succ]
    refine held_take 14 (oi := { dst := some 33, op := Op.move (Operand.tmp 7), type := 22, pos := "law.go:84", after := #[{ on := 12, ground := Ground.guard }], guard := some (12, true) }) (v := ?_) (by kernel_rfl) rfl (by rfl) (by kernel_rfl) (by kernel_rfl) (fun _ _ _ h => h) ?_ (by assumption) ?_
    rotate_left
    · (intro w hSw; (try dsimp only at hSw); go_simp; try with_reducible rfl)
    try simp only [Act.put, List.setIfInBounds_toArray, List.set_cons_zero, List.set_cons_succ]
    refine held_take 16 (oi := { dst := some 35, op := Op.load 24 (Operand.tmp 3), type := 24, pos := "law.go:84", after := #[{ on := 12, ground := Ground.guard }], guard := some (12, true) }) (v := ?_) (by kernel_rfl) rfl (by rfl) (by kernel_rfl) (by kernel_rfl) (fun _ _ _ h => h) ?_ (by assumption) ?_
    rotate_left
    · (intro w hSw; (try dsimp only at hSw); go_simp; try with_reducible rfl)
    try simp only [Act.put, List.setIfInBounds_toArray, List.set_cons_zero, List.set_cons_succ]
    refine held_take 17 (oi := { dst := some 36, op := Op.move (Operand.tmp 8), type := 22, pos := "law.go:84", after := #[{ on := 12, ground := Ground.guard }], guard := some (12, true) }) (v := ?_) (by kernel_rfl) rfl (by rfl) (by kernel_rfl) (by kernel_rfl) (fun _ _ _ h => h) ?_ (by assumption) ?_
    rotate_left
    · (intro w hSw; (try dsimp only at hSw); go_simp; try with_reducible rfl)
    try simp only [Act.put, List.setIfInBounds_toArray, List.set_cons_zero, List.set_cons_succ]
    refine held_one 15 (oi := { dst := some 34, op := Op.call { callee := Callee.value (Operand.func 25), args := #[Operand.tmp 32, Operand.tmp 33], argTypes := #[24, 22] }, type := 4, pos := "law.go:84", after := #[{ on := 13, ground := Ground.data }, { on := 14, ground := Ground.data }, { on := 12, ground := Ground.chain }, { on := 12, ground := Ground.guard }], guard := some (12, true) }) (by kernel_rfl) rfl (fun K hK => ?_)
    go_simp
    first
      | (go_at_call 16
         refine (live3_calls _).mono ?_
         rintro e W2 ⟨rfl, b2⟩
         have B2 := hide (Below.trans (unhide (by assumption : Hid (Below w7.heap.size w7 _))) (b2.mono (Below.size (unhide (by assumption : Hid (Below w7.heap.size w7 _))))))
         clear b2)
      | (go_at_call_of 25 (Value.slice a1 n1 c1)
         refine (quorum_calls ((unhide V7).later (unhide (by assumption : Hid (Below w7.heap.size w7 _)))) ((unhide L7).later (unhide (by assumption : Hid (Below w7.heap.size w7 _)))) ((unhide Q7).later (unhide (by assumption : Hid (Below w7.heap.size w7 _)))) vn ln n1 (unhide VN) (unhide LN) (unhide N1) hsv0 hsl0 m1).mono ?_
         rw [hqa]
         rintro e W2 ⟨rfl, b2⟩
         have B2 := hide (Below.trans (unhide (by assumption : Hid (Below w7.heap.size w7 _))) (b2.mono (Below.size (unhide (by assumption : Hid (Below w7.heap.size w7 _))))))
         clear b2)
      | (go_at_call_of 25 (Value.slice sp4 n4 k4)
         refine (quorum_calls ((unhide V7).later (unhide (by assumption : Hid (Below w7.heap.size w7 _)))) ((unhide L7).later (unhide (by assumption : Hid (Below w7.heap.size w7 _)))) ((unhide X7).later (unhide (by assumption : Hid (Below w7.heap.size w7 _)))) vn ln n4 (unhide VN) (unhide LN) (unhide N4) hsv0 hsl0 m4).mono ?_
         rw [hqx]
         rintro e W2 ⟨rfl, b2⟩
         have B2 := hide (Below.trans (unhide (by assumption : Hid (Below w7.heap.size w7 _))) (b2.mono (Below.size (unhide (by assumption : Hid (Below w7.heap.size w7 _))))))
         clear b2)
      | (go_at_call_of 25 (Value.slice sp7 n7 k7)
         refine (quorum_calls ((unhide V7).later (unhide (by assumption : Hid (Below w7.heap.size w7 _)))) ((unhide L7).later (unhide (by assumption : Hid (Below w7.heap.size w7 _)))) ((unhide Y7).later (unhide (by assumption : Hid (Below w7.heap.size w7 _)))) vn ln n7 (unhide VN) (unhide LN) (unhide N7) hsv0 hsl0 m7).mono ?_
         rw [unhide hqy]
         rintro e W2 ⟨rfl, b2⟩
         have B2 := hide (Below.trans (unhide (by assumption : Hid (Below w7.heap.size w7 _))) (b2.mono (Below.size (unhide (by assumption : Hid (Below w7.heap.size w7 _))))))
         clear b2)
    go_wp2_with fail
    refine hK.out _ _ ?_ (fun hHeld => ?_)
    · try dsimp only
      exact ⟨cell_later (unhide (by assumption : Hid (Below w7.heap.size w7 _))) d0, cell_later (unhide (by assumption : Hid (Below w7.heap.size w7 _))) d1⟩
    clear hK K
    try simp only [Act.put, List.setIfInBounds_toArray, List.set_cons_zero, List.set_cons_succ]
    refine held_one 18 (oi := { dst := some 37, op := Op.call { callee := Callee.value (Operand.func 25), args := #[Operand.tmp 35, Operand.tmp 36], argTypes := #[24, 22] }, type := 4, pos := "law.go:84", after := #[{ on := 16, ground := Ground.data }, { on := 17, ground := Ground.data }, { on := 15, ground := Ground.chain }, { on := 12, ground := Ground.guard }], guard := some (12, true) }) (by kernel_rfl) rfl (fun K hK => ?_)
    go_simp
    first
      | (go_at_call 16
         refine (live3_calls _).mono ?_
         rintro e W2 ⟨rfl, b2⟩
         have B2 := hide (Below.trans (unhide (by assumption : Hid (Below w7.heap.size w7 _))) (b2.mono (Below.size (unhide (by assumption : Hid (Below w7.heap.size w7 _))))))
         clear b2)
      | (go_at_call_of 25 (Value.slice a1 n1 c1)
         refine (quorum_calls ((unhide V7).later (unhide (by assumption : Hid (Below w7.heap.size w7 _)))) ((unhide L7).later (unhide (by assumption : Hid (Below w7.heap.size w7 _)))) ((unhide Q7).later (unhide (by assumption : Hid (Below w7.heap.size w7 _)))) vn ln n1 (unhide VN) (unhide LN) (unhide N1) hsv0 hsl0 m1).mono ?_
         rw [hqa]
         rintro e W2 ⟨rfl, b2⟩
         have B2 := hide (Below.trans (unhide (by assumption : Hid (Below w7.heap.size w7 _))) (b2.mono (Below.size (unhide (by assumption : Hid (Below w7.heap.size w7 _))))))
         clear b2)
      | (go_at_call_of 25 (Value.slice sp4 n4 k4)
         refine (quorum_calls ((unhide V7).later (unhide (by assumption : Hid (Below w7.heap.size w7 _)))) ((unhide L7).later (unhide (by assumption : Hid (Below w7.heap.size w7 _)))) ((unhide X7).later (unhide (by assumption : Hid (Below w7.heap.size w7 _)))) vn ln n4 (unhide VN) (unhide LN) (unhide N4) hsv0 hsl0 m4).mono ?_
         rw [hqx]
         rintro e W2 ⟨rfl, b2⟩
         have B2 := hide (Below.trans (unhide (by assumption : Hid (Below w7.heap.size w7 _))) (b2.mono (Below.size (unhide (by assumption : Hid (Below w7.heap.size w7 _))))))
         clear b2)
      | (go_at_call_of 25 (Value.slice sp7 n7 k7)
         refine (quorum_calls ((unhide V7).later (unhide (by assumption : Hid (Below w7.heap.size w7 _)))) ((unhide L7).later (unhide (by assumption : Hid (Below w7.heap.size w7 _)))) ((unhide Y7).later (unhide (by assumption : Hid (Below w7.heap.size w7 _)))) vn ln n7 (unhide VN) (unhide LN) (unhide N7) hsv0 hsl0 m7).mono ?_
         rw [unhide hqy]
         rintro e W2 ⟨rfl, b2⟩
         have B2 := hide (Below.trans (unhide (by assumption : Hid (Below w7.heap.size w7 _))) (b2.mono (Below.size (unhide (by assumption : Hid (Below w7.heap.size w7 _))))))
         clear b2)
    go_wp2_with fail
    refine hK.out _ _ ?_ (fun hHeld => ?_)
    · try dsimp only
      exact ⟨cell_later (unhide (by assumption : Hid (Below w7.heap.size w7 _))) d0, cell_later (unhide (by assumption : Hid (Below w7.heap.size w7 _))) d1⟩
    clear hK K
    try simp only [Act.put, List.setIfInBounds_toArray, List.set_cons_zero, List.set_cons_succ]
    refine held_take 19 (oi := { dst := some 38, op := Op.binOp BinOp.eql 4 (Operand.tmp 34) (Operand.tmp 37) 4, type := 4, pos := "law.go:84", after := #[{ on := 15, ground := Ground.data }, { on := 18, ground := Ground.data }, { on := 12, ground := Ground.guard }], guard := some (12, true) }) (v := ?_) (by kernel_rfl) rfl (by rfl) (by kernel_rfl) (by kernel_rfl) (fun _ _ _ h => h) ?_ (by assumption) ?_
    rotate_left
    · (intro w hSw; (try dsimp only at hSw); go_simp; try with_reducible rfl)
    try simp only [Act.put, List.setIfInBounds_toArray, List.set_cons_zero, List.set_cons_succ]
    refine held_take 20 (oi := { dst := some 39, op := Op.pick (Operand.tmp 31) (Operand.tmp 38) (Operand.const (Value.bool false)), type := 4, pos := "law.go:84", after := #[{ on := 12, ground := Ground.data }, { on := 19, ground := Ground.data }], guard := none }) (v := ?_) (by kernel_rfl) rfl (by rfl) (by kernel_rfl) (by kernel_rfl) (fun _ _ _ h => h) ?_ (by assumption) ?_
    rotate_left
    · (intro w hSw; (try dsimp only at hSw); go_simp; try with_reducible rfl)
    try simp only [Act.put, List.setIfInBounds_toArray, List.set_cons_zero, List.set_cons_succ]
    refine held_take 21 (oi := { dst := some 6, op := Op.assign (Operand.tmp 39), type := 4, pos := "law.go:84", after := #[{ on := 20, ground := Ground.data }, { on := 18, ground := Ground.chain }, { on := 0, ground := Ground.phase }, { on := 1, ground := Ground.phase }, { on := 2, ground := Ground.phase }, { on := 3, ground := Ground.phase }, { on := 4, ground := Ground.phase }, { on := 5, ground := Ground.phase }, { on := 6, ground := Ground.phase }, { on := 7, ground := Ground.phase }, { on := 8, ground := Ground.phase }, { on := 9, ground := Ground.phase }, { on := 10, ground := Ground.phase }, { on := 11, ground := Ground.phase }, { on := 12, ground := Ground.phase }, { on := 13, ground := Ground.phase }, { on := 14, ground := Ground.phase }, { on := 15, ground := Ground.phase }, { on := 16, ground := Ground.phase }, { on := 17, ground := Ground.phase }, { on := 18, ground := Ground.phase }, { on := 19, ground := Ground.phase }, { on := 20, ground := Ground.phase }], guard := none }) (v := ?_) (by kernel_rfl) rfl (by rfl) (by kernel_rfl) (by kernel_rfl) (fun _ _ _ h => h) ?_ (by assumption) ?_
    rotate_left
    · (intro w hSw; (try dsimp only at hSw); go_simp; try with_reducible rfl)
    try simp only [Act.put, List.setIfInBounds_toArray, List.set_cons_zero, List.set_cons_succ]
    refine wpAnyH_done (by kernel_rfl) ?_ _
    all_goals
      go_wp2
      go_ret
      exact ⟨rfl, by rw [hD]; exact (unhide b1).trans ((Below.trans (unhide A7) ((unhide (by assumption : Hid (Below w7.heap.size w7 _))).mono (by have := (unhide A7).size; omega))).mono (by have := (unhide b1).size; omega))⟩

set_option maxRecDepth 100000 in
theorem lifted (os : Os) (started : os.Started) (H : Type) (enc : TypeId × Value → H) (F : Stop.Interp) :
    ReturnsInHanded {} Try.checked os 9 .any ((Rows.OpenSpec.upto Rows.memberMoreSpec).pre6 enc Try.prog Try.f9 Rows.memberMoreUptoRow.domain false) (((Rows.OpenSpec.upto Rows.memberMoreSpec).at F).post enc Try.prog Try.f9 false true false false) := by
  refine returnsInHanded_of_cond (C := Try.checked) (s := Rows.OpenSpec.upto Rows.memberMoreSpec) (k := Rows.uptoSmall) rfl own started (by kernel_rfl) Try.func9
    (OpenSpec.witness (enc := enc) (C := Try.checked) (s := Rows.OpenSpec.upto Rows.memberMoreSpec) (k := Rows.uptoSmall) rfl false ⟨#[], #[.agg #[.slice none 0 0, .slice none 0 0], .slice none 0 0, .slice none 0 0], []⟩ 8 (by kernel_rfl) (by kernel_rfl) (by kernel_rfl)
      (x := ([.agg [.nil, .nil], .nil, .nil], [], [])) (by kernel_rfl) rfl (by kernel_rfl)) ?_
  intro W base args ds gs before hval0 hW hcnd hk _
  have hval : ∀ (j : Nat) t v, Try.f9.params[j]? = some t → args[j]? = some v → Value.okWide Try.prog W .any base t v := hval0
  have hW' := hW
  obtain ⟨p, q, hA0, hV, rfl, hfz, hnd⟩ := hW
  have hA : DataW.TrodAll enc Try.prog W 0 (fun _ => true) true Try.f9.params.toList args.toList ds p := hA0
  rw [Try.params9] at hA hval
  obtain ⟨v0, vs0, d0, ds0, p0, q0, hargs, rfl, rfl, h0, r0⟩ := trodAll_cons hA
  obtain ⟨v1, vs1, d1, ds1, p1, q1, rfl, rfl, rfl, h1, r1⟩ := trodAll_cons r0
  obtain ⟨v2, vs2, d2, ds2, p2, q2, rfl, rfl, rfl, h2, r2⟩ := trodAll_cons r1
  obtain ⟨rfl, rfl, rfl⟩ := trodAll_nil r2
  obtain rfl : args = #[v0, v1, v2] := by cases args; simp_all
  obtain ⟨rfl, rfl⟩ := trodVars_none hV
  have k0 := h0
  have lt0 : ∀ x ∈ p0, x.block < W.heap.size := by obtain ⟨m, hm⟩ := k0; exact DataW.trod_lt m _ _ _ hm
  obtain ⟨va0, vc0, vs0, la0, lc0, ls0, rfl, hsv0, hV0, hzv0, hsl0, hL0, hzl0⟩ := open_members (hval 0 24 v0 rfl rfl) h0
  obtain ⟨a1, len1, c1, rfl⟩ := okWide_slice Try.underlying22 (hval 1 22 v1 rfl rfl)
  have k1 := h1
  have lt1 : ∀ x ∈ p1, x.block < W.heap.size := by obtain ⟨m, hm⟩ := k1; exact DataW.trod_lt m _ _ _ hm
  obtain ⟨l1, rfl, hcc1, hb1, hz1, hr1⟩ := row64D h1
  have hs1 : l1.length ≤ 1048576 := Nat.le_trans hcc1 (bulk8 hk (List.mem_append_left _ (by simp : d1 ∈ [_, d1, d2])) hr1)
  obtain ⟨a2, len2, c2, rfl⟩ := okWide_slice Try.underlying22 (hval 2 22 v2 rfl rfl)
  have k2 := h2
  have lt2 : ∀ x ∈ p2, x.block < W.heap.size := by obtain ⟨m, hm⟩ := k2; exact DataW.trod_lt m _ _ _ hm
  obtain ⟨l2, rfl, hcc2, hb2, hz2, hr2⟩ := row64D h2
  have hs2 : l2.length ≤ 1048576 := Nat.le_trans hcc2 (bulk8 hk (List.mem_append_left _ (by simp : d2 ∈ [_, d1, d2])) hr2)
  clear hA0 hval0
  refine (walk va0 vc0 vs0 la0 lc0 ls0 a1 c1 l1 a2 c2 l2 W hsv0 hV0 hzv0 hsl0 hL0 hzl0 hs1 hb1 hz1 hs2 hb2 hz2).mono fun e W' ⟨he, bel⟩ => ?_
  subst he
  exact ⟨_, rfl, _, _, _, [], _, [], hW', trodAll_mk1 (shut_bool Try.underlying4 _), (trodAll_cons_mk (Below.trod laidOut (by kernel_rfl) (of_decide_eq_true (by kernel_rfl)) k0 bel lt0) (trodAll_cons_mk (Below.trod laidOut (by kernel_rfl) (of_decide_eq_true (by kernel_rfl)) k1 bel lt1) (trodAll_cons_mk (Below.trod laidOut (by kernel_rfl) (of_decide_eq_true (by kernel_rfl)) k2 bel lt2) trodAll_mk0))), rfl, bel.frame _, fun h => by cases h⟩

theorem proved : Rows.MemberMoreUptoSaid :=
  OpenClaim.holds_of_cond 9 Try.f9 rfl rfl rfl rfl rfl rfl rfl ⟨rfl, rfl, rfl, rfl, rfl⟩ rfl rfl rfl rfl rfl (by kernel_rfl) Try.func9 (by kernel_rfl)
    (of_decide_eq_true (by kernel_rfl)) (by unfold Func.isWrapper; first | (rw [if_pos (by decide +kernel)]; kernel_rfl) | (rw [if_neg (by decide +kernel)]; exact ⟨rfl, rfl⟩))
    (fun os started H enc _ F => lifted os started H enc F)
end Go.Proofs.Ytnclkkoefejjiaa.memberMoreUpto
namespace Go.Proofs.Ytnclkkoefejjiaa
theorem memberMoreUpto_holds : Rows.MemberMoreUptoSaid := memberMoreUpto.proved
#print axioms memberMoreUpto_holds
end Go.Proofs.Ytnclkkoefejjiaa
