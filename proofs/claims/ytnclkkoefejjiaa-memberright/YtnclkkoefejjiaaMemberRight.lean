/- Proved: which members may be, who votes, and all of them, are just what the document says, whatever the members and the number; no condition. -/
import Derived.Test.YtnclkkoefejjiaaMk2
import Derived.Test.YtnclkkoefejjiaaHld
namespace Go.Proofs.Ytnclkkoefejjiaa.memberRight
open Go.ChangeShapes Go.WideShapes Go.ChangeAt Go.RowKit
set_option linter.unusedVariables false

theorem own : ownKnob Try.prog.godebug = none := by kernel_rfl
theorem laidOut : laidOutB Try.prog = true := by kernel_rfl

set_option maxRecDepth 20000 in
set_option maxHeartbeats 8000000 in
theorem walk (va0 : Option Addr) (vc0 : Nat) (vs0 : List Int) (la0 : Option Addr) (lc0 : Nat) (ls0 : List Int) (n1 : Int) (w : World)
    (hsv0 : vs0.length * 8 ≤ 140737488351232) (hV0 : IntsAt w va0 vs0) (_ : va0 = none → vc0 = 0) (hsl0 : ls0.length * 8 ≤ 140737488351232) (hL0 : IntsAt w la0 ls0) (_ : la0 = none → lc0 = 0) (_ : -9223372036854775808 ≤ n1 ∧ n1 ≤ 9223372036854775807) :
    Calls Try.prog 3 #[mV va0 vs0.length vc0 la0 ls0.length lc0, .int .i64 n1] w fun e w' => e = .returned (.bool true) ∧ Below w.heap.size w w' := by
  obtain ⟨vn, hvn⟩ : ∃ n, vs0.length = n := ⟨_, rfl⟩
  obtain ⟨ln, hln⟩ : ∃ n, ls0.length = n := ⟨_, rfl⟩
  rw [hvn] at hsv0
  rw [hln] at hsl0
  rw [hvn, hln]
  have hvx : vn ≤ maxLen := by simp only [maxLen]; omega
  have hlx : ln ≤ maxLen := by simp only [maxLen]; omega
  have X1 := hide (heap_new w (mB va0 vn vc0 la0 ln lc0))
  have b1 := hide (show Below w.heap.size w (w.alloc (mB va0 vn vc0 la0 ln lc0)) from (Below.refl _ _).alloc (Nat.le_refl _) _)
  have V1 := hide (hV0.later (unhide b1))
  have L1 := hide (hL0.later (unhide b1))
  have VN := hide hvn
  have LN := hide hln
  have AL := hide (show (allM vs0 ls0).length ≤ maxLen by
    unfold allM
    split
    · have := nums_len (fun x => decide (x ∈ vs0 ∨ x ∈ ls0)) 9
      simp only [maxLen]
      omega
    · simp [maxLen])
  have d0 := box_cell (unhide X1) 0 _ rfl
  have d1 := box_cell (unhide X1) 1 _ rfl
  clear hV0 hL0 hvn hln
  go_enter Try.func3, Try.ntmps3
  go_wp2_with fail
  generalize hD : w.heap.size = D at *
  generalize w.alloc (mB va0 vn vc0 la0 ln lc0) = w1 at *
  have G1 := hide (show Below w1.heap.size w1 w1.drew from (Below.refl _ _).drew)
  refine wp_region_held_drew (S := fun w' => w'.cell? ⟨D, 0, none⟩ = some (.slice va0 vn vc0) ∧ w'.cell? ⟨D, 1, none⟩ = some (.slice la0 ln lc0)) (by kernel_rfl) ?_ (fun hHeld => ?_)
  · try dsimp only
    exact ⟨cell_later (unhide (by assumption : Hid (Below w1.heap.size w1 _))) d0, cell_later (unhide (by assumption : Hid (Below w1.heap.size w1 _))) d1⟩
  refine held_one 0 (oi := { dst := some 5, op := Op.call { callee := Callee.value (Operand.func 16), args := #[], argTypes := #[] }, type := 4, pos := "law.go:22", after := #[], guard := none }) (by kernel_rfl) rfl (fun K hK => ?_)
  go_simp
  first
    | (go_at_call 16
       refine (live3_calls _).mono ?_
       rintro e W2 ⟨rfl, b2⟩
       have B2 := hide (Below.trans (unhide (by assumption : Hid (Below w1.heap.size w1 _))) (b2.mono (Below.size (unhide (by assumption : Hid (Below w1.heap.size w1 _))))))
       clear b2)
    | (go_at_call 17
       refine (right_calls ((unhide V1).later (unhide (by assumption : Hid (Below w1.heap.size w1 _)))) ((unhide L1).later (unhide (by assumption : Hid (Below w1.heap.size w1 _)))) vn ln (unhide VN) (unhide LN) hvx hlx).mono ?_
       rintro e W2 ⟨rfl, b2⟩
       have B2 := hide (Below.trans (unhide (by assumption : Hid (Below w1.heap.size w1 _))) (b2.mono (Below.size (unhide (by assumption : Hid (Below w1.heap.size w1 _))))))
       clear b2)
    | (go_at_call 18
       refine (refRight_calls ((unhide V1).later (unhide (by assumption : Hid (Below w1.heap.size w1 _)))) ((unhide L1).later (unhide (by assumption : Hid (Below w1.heap.size w1 _)))) vn ln (unhide VN) (unhide LN) hvx hlx).mono ?_
       rintro e W2 ⟨rfl, b2⟩
       have B2 := hide (Below.trans (unhide (by assumption : Hid (Below w1.heap.size w1 _))) (b2.mono (Below.size (unhide (by assumption : Hid (Below w1.heap.size w1 _))))))
       clear b2)
    | (go_at_call 19
       refine (voter_calls ((unhide V1).later (unhide (by assumption : Hid (Below w1.heap.size w1 _)))) ((unhide L1).later (unhide (by assumption : Hid (Below w1.heap.size w1 _)))) vn ln (unhide VN) (unhide LN) hvx hlx n1).mono ?_
       rintro e W2 ⟨rfl, b2⟩
       have B2 := hide (Below.trans (unhide (by assumption : Hid (Below w1.heap.size w1 _))) (b2.mono (Below.size (unhide (by assumption : Hid (Below w1.heap.size w1 _))))))
       clear b2)
    | (go_at_call 20
       refine (refVoter_calls ((unhide V1).later (unhide (by assumption : Hid (Below w1.heap.size w1 _)))) ((unhide L1).later (unhide (by assumption : Hid (Below w1.heap.size w1 _)))) vn ln (unhide VN) (unhide LN) hvx hlx n1).mono ?_
       rintro e W2 ⟨rfl, b2⟩
       have B2 := hide (Below.trans (unhide (by assumption : Hid (Below w1.heap.size w1 _))) (b2.mono (Below.size (unhide (by assumption : Hid (Below w1.heap.size w1 _))))))
       clear b2)
    | (go_at_call 22
       refine (all_calls ((unhide V1).later (unhide (by assumption : Hid (Below w1.heap.size w1 _)))) ((unhide L1).later (unhide (by assumption : Hid (Below w1.heap.size w1 _)))) vn ln (unhide VN) (unhide LN) hvx hlx).mono ?_
       rintro e W2 ⟨spa, na, ca, rfl, hna, hoa, b2⟩
       have B2 := hide (Below.trans (unhide (by assumption : Hid (Below w1.heap.size w1 _))) (b2.mono (Below.size (unhide (by assumption : Hid (Below w1.heap.size w1 _))))))
       have NA := hide (unhide hna)
       have OA := hide hoa.ints
       (try have OB := hide ((unhide OB).later b2))
       clear hna hoa
       clear b2)
    | (go_at_call 23
       refine (refAll_calls ((unhide V1).later (unhide (by assumption : Hid (Below w1.heap.size w1 _)))) ((unhide L1).later (unhide (by assumption : Hid (Below w1.heap.size w1 _)))) vn ln (unhide VN) (unhide LN) hvx hlx).mono ?_
       rintro e W2 ⟨spb, nb, cb, rfl, hnb, hob, b2⟩
       have B2 := hide (Below.trans (unhide (by assumption : Hid (Below w1.heap.size w1 _))) (b2.mono (Below.size (unhide (by assumption : Hid (Below w1.heap.size w1 _))))))
       have NB := hide (unhide hnb)
       have OB := hide hob.ints
       (try have OA := hide ((unhide OA).later b2))
       clear hnb hob
       clear b2)
    | (go_at_call 21
       refine (sameInts_calls (unhide OA) (unhide OB) na nb (unhide NA) (unhide NB) (by rw [← unhide NA]; exact unhide AL) (by rw [← unhide NB]; exact unhide AL)).mono ?_
       rintro e W2 ⟨rfl, b2⟩
       have B2 := hide (Below.trans (unhide (by assumption : Hid (Below w1.heap.size w1 _))) (b2.mono (Below.size (unhide (by assumption : Hid (Below w1.heap.size w1 _))))))
       clear b2)
  go_wp2_with fail
  refine hK.out _ _ ?_ (fun hHeld => ?_)
  · try dsimp only
    exact ⟨cell_later (unhide (by assumption : Hid (Below w1.heap.size w1 _))) d0, cell_later (unhide (by assumption : Hid (Below w1.heap.size w1 _))) d1⟩
  clear hK K
  try simp only [Act.put, List.setIfInBounds_toArray, List.set_cons_zero, List.set_cons_succ]
  refine held_take 1 (oi := { dst := some 6, op := Op.move (Operand.tmp 5), type := 4, pos := "law.go:22", after := #[{ on := 0, ground := Ground.data }, { on := 0, ground := Ground.chain }], guard := none }) (v := ?_) (by kernel_rfl) rfl (by rfl) (by kernel_rfl) (by kernel_rfl) (fun _ _ _ h => h) ?_ (by assumption) ?_
  rotate_left
  · (intro w hSw; (try dsimp only at hSw); go_simp; try with_reducible rfl)
  try simp only [Act.put, List.setIfInBounds_toArray, List.set_cons_zero, List.set_cons_succ]
  refine held_take 2 (oi := { dst := some 7, op := Op.load 24 (Operand.tmp 2), type := 24, pos := "law.go:22", after := #[{ on := 1, ground := Ground.guard }], guard := some (1, true) }) (v := ?_) (by kernel_rfl) rfl (by rfl) (by kernel_rfl) (by kernel_rfl) (fun _ _ _ h => h) ?_ (by assumption) ?_
  rotate_left
  · (intro w hSw; (try dsimp only at hSw); go_simp; try with_reducible rfl)
  try simp only [Act.put, List.setIfInBounds_toArray, List.set_cons_zero, List.set_cons_succ]
  refine held_take 4 (oi := { dst := some 9, op := Op.load 24 (Operand.tmp 2), type := 24, pos := "law.go:22", after := #[{ on := 1, ground := Ground.guard }], guard := some (1, true) }) (v := ?_) (by kernel_rfl) rfl (by rfl) (by kernel_rfl) (by kernel_rfl) (fun _ _ _ h => h) ?_ (by assumption) ?_
  rotate_left
  · (intro w hSw; (try dsimp only at hSw); go_simp; try with_reducible rfl)
  try simp only [Act.put, List.setIfInBounds_toArray, List.set_cons_zero, List.set_cons_succ]
  refine held_one 3 (oi := { dst := some 8, op := Op.call { callee := Callee.value (Operand.func 17), args := #[Operand.tmp 7], argTypes := #[24] }, type := 4, pos := "law.go:22", after := #[{ on := 2, ground := Ground.data }, { on := 1, ground := Ground.chain }, { on := 1, ground := Ground.guard }], guard := some (1, true) }) (by kernel_rfl) rfl (fun K hK => ?_)
  go_simp
  first
    | (go_at_call 16
       refine (live3_calls _).mono ?_
       rintro e W2 ⟨rfl, b2⟩
       have B2 := hide (Below.trans (unhide (by assumption : Hid (Below w1.heap.size w1 _))) (b2.mono (Below.size (unhide (by assumption : Hid (Below w1.heap.size w1 _))))))
       clear b2)
    | (go_at_call 17
       refine (right_calls ((unhide V1).later (unhide (by assumption : Hid (Below w1.heap.size w1 _)))) ((unhide L1).later (unhide (by assumption : Hid (Below w1.heap.size w1 _)))) vn ln (unhide VN) (unhide LN) hvx hlx).mono ?_
       rintro e W2 ⟨rfl, b2⟩
       have B2 := hide (Below.trans (unhide (by assumption : Hid (Below w1.heap.size w1 _))) (b2.mono (Below.size (unhide (by assumption : Hid (Below w1.heap.size w1 _))))))
       clear b2)
    | (go_at_call 18
       refine (refRight_calls ((unhide V1).later (unhide (by assumption : Hid (Below w1.heap.size w1 _)))) ((unhide L1).later (unhide (by assumption : Hid (Below w1.heap.size w1 _)))) vn ln (unhide VN) (unhide LN) hvx hlx).mono ?_
       rintro e W2 ⟨rfl, b2⟩
       have B2 := hide (Below.trans (unhide (by assumption : Hid (Below w1.heap.size w1 _))) (b2.mono (Below.size (unhide (by assumption : Hid (Below w1.heap.size w1 _))))))
       clear b2)
    | (go_at_call 19
       refine (voter_calls ((unhide V1).later (unhide (by assumption : Hid (Below w1.heap.size w1 _)))) ((unhide L1).later (unhide (by assumption : Hid (Below w1.heap.size w1 _)))) vn ln (unhide VN) (unhide LN) hvx hlx n1).mono ?_
       rintro e W2 ⟨rfl, b2⟩
       have B2 := hide (Below.trans (unhide (by assumption : Hid (Below w1.heap.size w1 _))) (b2.mono (Below.size (unhide (by assumption : Hid (Below w1.heap.size w1 _))))))
       clear b2)
    | (go_at_call 20
       refine (refVoter_calls ((unhide V1).later (unhide (by assumption : Hid (Below w1.heap.size w1 _)))) ((unhide L1).later (unhide (by assumption : Hid (Below w1.heap.size w1 _)))) vn ln (unhide VN) (unhide LN) hvx hlx n1).mono ?_
       rintro e W2 ⟨rfl, b2⟩
       have B2 := hide (Below.trans (unhide (by assumption : Hid (Below w1.heap.size w1 _))) (b2.mono (Below.size (unhide (by assumption : Hid (Below w1.heap.size w1 _))))))
       clear b2)
    | (go_at_call 22
       refine (all_calls ((unhide V1).later (unhide (by assumption : Hid (Below w1.heap.size w1 _)))) ((unhide L1).later (unhide (by assumption : Hid (Below w1.heap.size w1 _)))) vn ln (unhide VN) (unhide LN) hvx hlx).mono ?_
       rintro e W2 ⟨spa, na, ca, rfl, hna, hoa, b2⟩
       have B2 := hide (Below.trans (unhide (by assumption : Hid (Below w1.heap.size w1 _))) (b2.mono (Below.size (unhide (by assumption : Hid (Below w1.heap.size w1 _))))))
       have NA := hide (unhide hna)
       have OA := hide hoa.ints
       (try have OB := hide ((unhide OB).later b2))
       clear hna hoa
       clear b2)
    | (go_at_call 23
       refine (refAll_calls ((unhide V1).later (unhide (by assumption : Hid (Below w1.heap.size w1 _)))) ((unhide L1).later (unhide (by assumption : Hid (Below w1.heap.size w1 _)))) vn ln (unhide VN) (unhide LN) hvx hlx).mono ?_
       rintro e W2 ⟨spb, nb, cb, rfl, hnb, hob, b2⟩
       have B2 := hide (Below.trans (unhide (by assumption : Hid (Below w1.heap.size w1 _))) (b2.mono (Below.size (unhide (by assumption : Hid (Below w1.heap.size w1 _))))))
       have NB := hide (unhide hnb)
       have OB := hide hob.ints
       (try have OA := hide ((unhide OA).later b2))
       clear hnb hob
       clear b2)
    | (go_at_call 21
       refine (sameInts_calls (unhide OA) (unhide OB) na nb (unhide NA) (unhide NB) (by rw [← unhide NA]; exact unhide AL) (by rw [← unhide NB]; exact unhide AL)).mono ?_
       rintro e W2 ⟨rfl, b2⟩
       have B2 := hide (Below.trans (unhide (by assumption : Hid (Below w1.heap.size w1 _))) (b2.mono (Below.size (unhide (by assumption : Hid (Below w1.heap.size w1 _))))))
       clear b2)
  go_wp2_with fail
  refine hK.out _ _ ?_ (fun hHeld => ?_)
  · try dsimp only
    exact ⟨cell_later (unhide (by assumption : Hid (Below w1.heap.size w1 _))) d0, cell_later (unhide (by assumption : Hid (Below w1.heap.size w1 _))) d1⟩
  clear hK K
  try simp only [Act.put, List.setIfInBounds_toArray, List.set_cons_zero, List.set_cons_succ]
  refine held_one 5 (oi := { dst := some 10, op := Op.call { callee := Callee.value (Operand.func 18), args := #[Operand.tmp 9], argTypes := #[24] }, type := 4, pos := "law.go:22", after := #[{ on := 4, ground := Ground.data }, { on := 3, ground := Ground.chain }, { on := 1, ground := Ground.guard }], guard := some (1, true) }) (by kernel_rfl) rfl (fun K hK => ?_)
  go_simp
  first
    | (go_at_call 16
       refine (live3_calls _).mono ?_
       rintro e W2 ⟨rfl, b2⟩
       have B2 := hide (Below.trans (unhide (by assumption : Hid (Below w1.heap.size w1 _))) (b2.mono (Below.size (unhide (by assumption : Hid (Below w1.heap.size w1 _))))))
       clear b2)
    | (go_at_call 17
       refine (right_calls ((unhide V1).later (unhide (by assumption : Hid (Below w1.heap.size w1 _)))) ((unhide L1).later (unhide (by assumption : Hid (Below w1.heap.size w1 _)))) vn ln (unhide VN) (unhide LN) hvx hlx).mono ?_
       rintro e W2 ⟨rfl, b2⟩
       have B2 := hide (Below.trans (unhide (by assumption : Hid (Below w1.heap.size w1 _))) (b2.mono (Below.size (unhide (by assumption : Hid (Below w1.heap.size w1 _))))))
       clear b2)
    | (go_at_call 18
       refine (refRight_calls ((unhide V1).later (unhide (by assumption : Hid (Below w1.heap.size w1 _)))) ((unhide L1).later (unhide (by assumption : Hid (Below w1.heap.size w1 _)))) vn ln (unhide VN) (unhide LN) hvx hlx).mono ?_
       rintro e W2 ⟨rfl, b2⟩
       have B2 := hide (Below.trans (unhide (by assumption : Hid (Below w1.heap.size w1 _))) (b2.mono (Below.size (unhide (by assumption : Hid (Below w1.heap.size w1 _))))))
       clear b2)
    | (go_at_call 19
       refine (voter_calls ((unhide V1).later (unhide (by assumption : Hid (Below w1.heap.size w1 _)))) ((unhide L1).later (unhide (by assumption : Hid (Below w1.heap.size w1 _)))) vn ln (unhide VN) (unhide LN) hvx hlx n1).mono ?_
       rintro e W2 ⟨rfl, b2⟩
       have B2 := hide (Below.trans (unhide (by assumption : Hid (Below w1.heap.size w1 _))) (b2.mono (Below.size (unhide (by assumption : Hid (Below w1.heap.size w1 _))))))
       clear b2)
    | (go_at_call 20
       refine (refVoter_calls ((unhide V1).later (unhide (by assumption : Hid (Below w1.heap.size w1 _)))) ((unhide L1).later (unhide (by assumption : Hid (Below w1.heap.size w1 _)))) vn ln (unhide VN) (unhide LN) hvx hlx n1).mono ?_
       rintro e W2 ⟨rfl, b2⟩
       have B2 := hide (Below.trans (unhide (by assumption : Hid (Below w1.heap.size w1 _))) (b2.mono (Below.size (unhide (by assumption : Hid (Below w1.heap.size w1 _))))))
       clear b2)
    | (go_at_call 22
       refine (all_calls ((unhide V1).later (unhide (by assumption : Hid (Below w1.heap.size w1 _)))) ((unhide L1).later (unhide (by assumption : Hid (Below w1.heap.size w1 _)))) vn ln (unhide VN) (unhide LN) hvx hlx).mono ?_
       rintro e W2 ⟨spa, na, ca, rfl, hna, hoa, b2⟩
       have B2 := hide (Below.trans (unhide (by assumption : Hid (Below w1.heap.size w1 _))) (b2.mono (Below.size (unhide (by assumption : Hid (Below w1.heap.size w1 _))))))
       have NA := hide (unhide hna)
       have OA := hide hoa.ints
       (try have OB := hide ((unhide OB).later b2))
       clear hna hoa
       clear b2)
    | (go_at_call 23
       refine (refAll_calls ((unhide V1).later (unhide (by assumption : Hid (Below w1.heap.size w1 _)))) ((unhide L1).later (unhide (by assumption : Hid (Below w1.heap.size w1 _)))) vn ln (unhide VN) (unhide LN) hvx hlx).mono ?_
       rintro e W2 ⟨spb, nb, cb, rfl, hnb, hob, b2⟩
       have B2 := hide (Below.trans (unhide (by assumption : Hid (Below w1.heap.size w1 _))) (b2.mono (Below.size (unhide (by assumption : Hid (Below w1.heap.size w1 _))))))
       have NB := hide (unhide hnb)
       have OB := hide hob.ints
       (try have OA := hide ((unhide OA).later b2))
       clear hnb hob
       clear b2)
    | (go_at_call 21
       refine (sameInts_calls (unhide OA) (unhide OB) na nb (unhide NA) (unhide NB) (by rw [← unhide NA]; exact unhide AL) (by rw [← unhide NB]; exact unhide AL)).mono ?_
       rintro e W2 ⟨rfl, b2⟩
       have B2 := hide (Below.trans (unhide (by assumption : Hid (Below w1.heap.size w1 _))) (b2.mono (Below.size (unhide (by assumption : Hid (Below w1.heap.size w1 _))))))
       clear b2)
  go_wp2_with fail
  refine hK.out _ _ ?_ (fun hHeld => ?_)
  · try dsimp only
    exact ⟨cell_later (unhide (by assumption : Hid (Below w1.heap.size w1 _))) d0, cell_later (unhide (by assumption : Hid (Below w1.heap.size w1 _))) d1⟩
  clear hK K
  try simp only [Act.put, List.setIfInBounds_toArray, List.set_cons_zero, List.set_cons_succ]
  refine held_take 6 (oi := { dst := some 11, op := Op.binOp BinOp.eql 4 (Operand.tmp 8) (Operand.tmp 10) 4, type := 4, pos := "law.go:22", after := #[{ on := 3, ground := Ground.data }, { on := 5, ground := Ground.data }, { on := 1, ground := Ground.guard }], guard := some (1, true) }) (v := ?_) (by kernel_rfl) rfl (by rfl) (by kernel_rfl) (by kernel_rfl) (fun _ _ _ h => h) ?_ (by assumption) ?_
  rotate_left
  · (intro w hSw; (try dsimp only at hSw); go_simp; try with_reducible rfl)
  try simp only [Act.put, List.setIfInBounds_toArray, List.set_cons_zero, List.set_cons_succ]
  refine held_take 7 (oi := { dst := some 12, op := Op.pick (Operand.tmp 6) (Operand.tmp 11) (Operand.const (Value.bool false)), type := 4, pos := "law.go:22", after := #[{ on := 1, ground := Ground.data }, { on := 6, ground := Ground.data }], guard := none }) (v := ?_) (by kernel_rfl) rfl (by rfl) (by kernel_rfl) (by kernel_rfl) (fun _ _ _ h => h) ?_ (by assumption) ?_
  rotate_left
  · (intro w hSw; (try dsimp only at hSw); go_simp; try with_reducible rfl)
  try simp only [Act.put, List.setIfInBounds_toArray, List.set_cons_zero, List.set_cons_succ]
  refine held_take 8 (oi := { dst := some 13, op := Op.move (Operand.tmp 12), type := 4, pos := "law.go:22", after := #[{ on := 7, ground := Ground.data }, { on := 5, ground := Ground.chain }], guard := none }) (v := ?_) (by kernel_rfl) rfl (by rfl) (by kernel_rfl) (by kernel_rfl) (fun _ _ _ h => h) ?_ (by assumption) ?_
  rotate_left
  · (intro w hSw; (try dsimp only at hSw); go_simp; try with_reducible rfl)
  try simp only [Act.put, List.setIfInBounds_toArray, List.set_cons_zero, List.set_cons_succ]
  refine held_take 9 (oi := { dst := some 14, op := Op.load 24 (Operand.tmp 2), type := 24, pos := "law.go:22", after := #[{ on := 8, ground := Ground.guard }], guard := some (8, true) }) (v := ?_) (by kernel_rfl) rfl (by rfl) (by kernel_rfl) (by kernel_rfl) (fun _ _ _ h => h) ?_ (by assumption) ?_
  rotate_left
  · (intro w hSw; (try dsimp only at hSw); go_simp; try with_reducible rfl)
  try simp only [Act.put, List.setIfInBounds_toArray, List.set_cons_zero, List.set_cons_succ]
  refine held_take 10 (oi := { dst := some 15, op := Op.move (Operand.tmp 1), type := 3, pos := "law.go:22", after := #[{ on := 8, ground := Ground.guard }], guard := some (8, true) }) (v := ?_) (by kernel_rfl) rfl (by rfl) (by kernel_rfl) (by kernel_rfl) (fun _ _ _ h => h) ?_ (by assumption) ?_
  rotate_left
  · (intro w hSw; (try dsimp only at hSw); go_simp; try with_reducible rfl)
  try simp only [Act.put, List.setIfInBounds_toArray, List.set_cons_zero, List.set_cons_succ]
  refine held_take 12 (oi := { dst := some 17, op := Op.load 24 (Operand.tmp 2), type := 24, pos := "law.go:22", after := #[{ on := 8, ground := Ground.guard }], guard := some (8, true) }) (v := ?_) (by kernel_rfl) rfl (by rfl) (by kernel_rfl) (by kernel_rfl) (fun _ _ _ h => h) ?_ (by assumption) ?_
  rotate_left
  · (intro w hSw; (try dsimp only at hSw); go_simp; try with_reducible rfl)
  try simp only [Act.put, List.setIfInBounds_toArray, List.set_cons_zero, List.set_cons_succ]
  refine held_take 13 (oi := { dst := some 18, op := Op.move (Operand.tmp 1), type := 3, pos := "law.go:22", after := #[{ on := 8, ground := Ground.guard }], guard := some (8, true) }) (v := ?_) (by kernel_rfl) rfl (by rfl) (by kernel_rfl) (by kernel_rfl) (fun _ _ _ h => h) ?_ (by assumption) ?_
  rotate_left
  · (intro w hSw; (try dsimp only at hSw); go_simp; try with_reducible rfl)
  try simp only [Act.put, List.setIfInBounds_toArray, List.set_cons_zero, List.set_cons_succ]
  refine held_one 11 (oi := { dst := some 16, op := Op.call { callee := Callee.value (Operand.func 19), args := #[Operand.tmp 14, Operand.tmp 15], argTypes := #[24, 3] }, type := 4, pos := "law.go:22", after := #[{ on := 9, ground := Ground.data }, { on := 10, ground := Ground.data }, { on := 8, ground := Ground.chain }, { on := 8, ground := Ground.guard }], guard := some (8, true) }) (by kernel_rfl) rfl (fun K hK => ?_)
  go_simp
  first
    | (go_at_call 16
       refine (live3_calls _).mono ?_
       rintro e W2 ⟨rfl, b2⟩
       have B2 := hide (Below.trans (unhide (by assumption : Hid (Below w1.heap.size w1 _))) (b2.mono (Below.size (unhide (by assumption : Hid (Below w1.heap.size w1 _))))))
       clear b2)
    | (go_at_call 17
       refine (right_calls ((unhide V1).later (unhide (by assumption : Hid (Below w1.heap.size w1 _)))) ((unhide L1).later (unhide (by assumption : Hid (Below w1.heap.size w1 _)))) vn ln (unhide VN) (unhide LN) hvx hlx).mono ?_
       rintro e W2 ⟨rfl, b2⟩
       have B2 := hide (Below.trans (unhide (by assumption : Hid (Below w1.heap.size w1 _))) (b2.mono (Below.size (unhide (by assumption : Hid (Below w1.heap.size w1 _))))))
       clear b2)
    | (go_at_call 18
       refine (refRight_calls ((unhide V1).later (unhide (by assumption : Hid (Below w1.heap.size w1 _)))) ((unhide L1).later (unhide (by assumption : Hid (Below w1.heap.size w1 _)))) vn ln (unhide VN) (unhide LN) hvx hlx).mono ?_
       rintro e W2 ⟨rfl, b2⟩
       have B2 := hide (Below.trans (unhide (by assumption : Hid (Below w1.heap.size w1 _))) (b2.mono (Below.size (unhide (by assumption : Hid (Below w1.heap.size w1 _))))))
       clear b2)
    | (go_at_call 19
       refine (voter_calls ((unhide V1).later (unhide (by assumption : Hid (Below w1.heap.size w1 _)))) ((unhide L1).later (unhide (by assumption : Hid (Below w1.heap.size w1 _)))) vn ln (unhide VN) (unhide LN) hvx hlx n1).mono ?_
       rintro e W2 ⟨rfl, b2⟩
       have B2 := hide (Below.trans (unhide (by assumption : Hid (Below w1.heap.size w1 _))) (b2.mono (Below.size (unhide (by assumption : Hid (Below w1.heap.size w1 _))))))
       clear b2)
    | (go_at_call 20
       refine (refVoter_calls ((unhide V1).later (unhide (by assumption : Hid (Below w1.heap.size w1 _)))) ((unhide L1).later (unhide (by assumption : Hid (Below w1.heap.size w1 _)))) vn ln (unhide VN) (unhide LN) hvx hlx n1).mono ?_
       rintro e W2 ⟨rfl, b2⟩
       have B2 := hide (Below.trans (unhide (by assumption : Hid (Below w1.heap.size w1 _))) (b2.mono (Below.size (unhide (by assumption : Hid (Below w1.heap.size w1 _))))))
       clear b2)
    | (go_at_call 22
       refine (all_calls ((unhide V1).later (unhide (by assumption : Hid (Below w1.heap.size w1 _)))) ((unhide L1).later (unhide (by assumption : Hid (Below w1.heap.size w1 _)))) vn ln (unhide VN) (unhide LN) hvx hlx).mono ?_
       rintro e W2 ⟨spa, na, ca, rfl, hna, hoa, b2⟩
       have B2 := hide (Below.trans (unhide (by assumption : Hid (Below w1.heap.size w1 _))) (b2.mono (Below.size (unhide (by assumption : Hid (Below w1.heap.size w1 _))))))
       have NA := hide (unhide hna)
       have OA := hide hoa.ints
       (try have OB := hide ((unhide OB).later b2))
       clear hna hoa
       clear b2)
    | (go_at_call 23
       refine (refAll_calls ((unhide V1).later (unhide (by assumption : Hid (Below w1.heap.size w1 _)))) ((unhide L1).later (unhide (by assumption : Hid (Below w1.heap.size w1 _)))) vn ln (unhide VN) (unhide LN) hvx hlx).mono ?_
       rintro e W2 ⟨spb, nb, cb, rfl, hnb, hob, b2⟩
       have B2 := hide (Below.trans (unhide (by assumption : Hid (Below w1.heap.size w1 _))) (b2.mono (Below.size (unhide (by assumption : Hid (Below w1.heap.size w1 _))))))
       have NB := hide (unhide hnb)
       have OB := hide hob.ints
       (try have OA := hide ((unhide OA).later b2))
       clear hnb hob
       clear b2)
    | (go_at_call 21
       refine (sameInts_calls (unhide OA) (unhide OB) na nb (unhide NA) (unhide NB) (by rw [← unhide NA]; exact unhide AL) (by rw [← unhide NB]; exact unhide AL)).mono ?_
       rintro e W2 ⟨rfl, b2⟩
       have B2 := hide (Below.trans (unhide (by assumption : Hid (Below w1.heap.size w1 _))) (b2.mono (Below.size (unhide (by assumption : Hid (Below w1.heap.size w1 _))))))
       clear b2)
  go_wp2_with fail
  refine hK.out _ _ ?_ (fun hHeld => ?_)
  · try dsimp only
    exact ⟨cell_later (unhide (by assumption : Hid (Below w1.heap.size w1 _))) d0, cell_later (unhide (by assumption : Hid (Below w1.heap.size w1 _))) d1⟩
  clear hK K
  try simp only [Act.put, List.setIfInBounds_toArray, List.set_cons_zero, List.set_cons_succ]
  refine held_one 14 (oi := { dst := some 19, op := Op.call { callee := Callee.value (Operand.func 20), args := #[Operand.tmp 17, Operand.tmp 18], argTypes := #[24, 3] }, type := 4, pos := "law.go:22", after := #[{ on := 12, ground := Ground.data }, { on := 13, ground := Ground.data }, { on := 11, ground := Ground.chain }, { on := 8, ground := Ground.guard }], guard := some (8, true) }) (by kernel_rfl) rfl (fun K hK => ?_)
  go_simp
  first
    | (go_at_call 16
       refine (live3_calls _).mono ?_
       rintro e W2 ⟨rfl, b2⟩
       have B2 := hide (Below.trans (unhide (by assumption : Hid (Below w1.heap.size w1 _))) (b2.mono (Below.size (unhide (by assumption : Hid (Below w1.heap.size w1 _))))))
       clear b2)
    | (go_at_call 17
       refine (right_calls ((unhide V1).later (unhide (by assumption : Hid (Below w1.heap.size w1 _)))) ((unhide L1).later (unhide (by assumption : Hid (Below w1.heap.size w1 _)))) vn ln (unhide VN) (unhide LN) hvx hlx).mono ?_
       rintro e W2 ⟨rfl, b2⟩
       have B2 := hide (Below.trans (unhide (by assumption : Hid (Below w1.heap.size w1 _))) (b2.mono (Below.size (unhide (by assumption : Hid (Below w1.heap.size w1 _))))))
       clear b2)
    | (go_at_call 18
       refine (refRight_calls ((unhide V1).later (unhide (by assumption : Hid (Below w1.heap.size w1 _)))) ((unhide L1).later (unhide (by assumption : Hid (Below w1.heap.size w1 _)))) vn ln (unhide VN) (unhide LN) hvx hlx).mono ?_
       rintro e W2 ⟨rfl, b2⟩
       have B2 := hide (Below.trans (unhide (by assumption : Hid (Below w1.heap.size w1 _))) (b2.mono (Below.size (unhide (by assumption : Hid (Below w1.heap.size w1 _))))))
       clear b2)
    | (go_at_call 19
       refine (voter_calls ((unhide V1).later (unhide (by assumption : Hid (Below w1.heap.size w1 _)))) ((unhide L1).later (unhide (by assumption : Hid (Below w1.heap.size w1 _)))) vn ln (unhide VN) (unhide LN) hvx hlx n1).mono ?_
       rintro e W2 ⟨rfl, b2⟩
       have B2 := hide (Below.trans (unhide (by assumption : Hid (Below w1.heap.size w1 _))) (b2.mono (Below.size (unhide (by assumption : Hid (Below w1.heap.size w1 _))))))
       clear b2)
    | (go_at_call 20
       refine (refVoter_calls ((unhide V1).later (unhide (by assumption : Hid (Below w1.heap.size w1 _)))) ((unhide L1).later (unhide (by assumption : Hid (Below w1.heap.size w1 _)))) vn ln (unhide VN) (unhide LN) hvx hlx n1).mono ?_
       rintro e W2 ⟨rfl, b2⟩
       have B2 := hide (Below.trans (unhide (by assumption : Hid (Below w1.heap.size w1 _))) (b2.mono (Below.size (unhide (by assumption : Hid (Below w1.heap.size w1 _))))))
       clear b2)
    | (go_at_call 22
       refine (all_calls ((unhide V1).later (unhide (by assumption : Hid (Below w1.heap.size w1 _)))) ((unhide L1).later (unhide (by assumption : Hid (Below w1.heap.size w1 _)))) vn ln (unhide VN) (unhide LN) hvx hlx).mono ?_
       rintro e W2 ⟨spa, na, ca, rfl, hna, hoa, b2⟩
       have B2 := hide (Below.trans (unhide (by assumption : Hid (Below w1.heap.size w1 _))) (b2.mono (Below.size (unhide (by assumption : Hid (Below w1.heap.size w1 _))))))
       have NA := hide (unhide hna)
       have OA := hide hoa.ints
       (try have OB := hide ((unhide OB).later b2))
       clear hna hoa
       clear b2)
    | (go_at_call 23
       refine (refAll_calls ((unhide V1).later (unhide (by assumption : Hid (Below w1.heap.size w1 _)))) ((unhide L1).later (unhide (by assumption : Hid (Below w1.heap.size w1 _)))) vn ln (unhide VN) (unhide LN) hvx hlx).mono ?_
       rintro e W2 ⟨spb, nb, cb, rfl, hnb, hob, b2⟩
       have B2 := hide (Below.trans (unhide (by assumption : Hid (Below w1.heap.size w1 _))) (b2.mono (Below.size (unhide (by assumption : Hid (Below w1.heap.size w1 _))))))
       have NB := hide (unhide hnb)
       have OB := hide hob.ints
       (try have OA := hide ((unhide OA).later b2))
       clear hnb hob
       clear b2)
    | (go_at_call 21
       refine (sameInts_calls (unhide OA) (unhide OB) na nb (unhide NA) (unhide NB) (by rw [← unhide NA]; exact unhide AL) (by rw [← unhide NB]; exact unhide AL)).mono ?_
       rintro e W2 ⟨rfl, b2⟩
       have B2 := hide (Below.trans (unhide (by assumption : Hid (Below w1.heap.size w1 _))) (b2.mono (Below.size (unhide (by assumption : Hid (Below w1.heap.size w1 _))))))
       clear b2)
  go_wp2_with fail
  refine hK.out _ _ ?_ (fun hHeld => ?_)
  · try dsimp only
    exact ⟨cell_later (unhide (by assumption : Hid (Below w1.heap.size w1 _))) d0, cell_later (unhide (by assumption : Hid (Below w1.heap.size w1 _))) d1⟩
  clear hK K
  try simp only [Act.put, List.setIfInBounds_toArray, List.set_cons_zero, List.set_cons_succ]
  refine held_take 15 (oi := { dst := some 20, op := Op.binOp BinOp.eql 4 (Operand.tmp 16) (Operand.tmp 19) 4, type := 4, pos := "law.go:22", after := #[{ on := 11, ground := Ground.data }, { on := 14, ground := Ground.data }, { on := 8, ground := Ground.guard }], guard := some (8, true) }) (v := ?_) (by kernel_rfl) rfl (by rfl) (by kernel_rfl) (by kernel_rfl) (fun _ _ _ h => h) ?_ (by assumption) ?_
  rotate_left
  · (intro w hSw; (try dsimp only at hSw); go_simp; try with_reducible rfl)
  try simp only [Act.put, List.setIfInBounds_toArray, List.set_cons_zero, List.set_cons_succ]
  refine held_take 16 (oi := { dst := some 21, op := Op.pick (Operand.tmp 13) (Operand.tmp 20) (Operand.const (Value.bool false)), type := 4, pos := "law.go:22", after := #[{ on := 8, ground := Ground.data }, { on := 15, ground := Ground.data }], guard := none }) (v := ?_) (by kernel_rfl) rfl (by rfl) (by kernel_rfl) (by kernel_rfl) (fun _ _ _ h => h) ?_ (by assumption) ?_
  rotate_left
  · (intro w hSw; (try dsimp only at hSw); go_simp; try with_reducible rfl)
  try simp only [Act.put, List.setIfInBounds_toArray, List.set_cons_zero, List.set_cons_succ]
  refine held_take 17 (oi := { dst := some 22, op := Op.move (Operand.tmp 21), type := 4, pos := "law.go:22", after := #[{ on := 16, ground := Ground.data }, { on := 14, ground := Ground.chain }], guard := none }) (v := ?_) (by kernel_rfl) rfl (by rfl) (by kernel_rfl) (by kernel_rfl) (fun _ _ _ h => h) ?_ (by assumption) ?_
  rotate_left
  · (intro w hSw; (try dsimp only at hSw); go_simp; try with_reducible rfl)
  try simp only [Act.put, List.setIfInBounds_toArray, List.set_cons_zero, List.set_cons_succ]
  refine held_take 18 (oi := { dst := some 23, op := Op.load 24 (Operand.tmp 2), type := 24, pos := "law.go:22", after := #[{ on := 17, ground := Ground.guard }], guard := some (17, true) }) (v := ?_) (by kernel_rfl) rfl (by rfl) (by kernel_rfl) (by kernel_rfl) (fun _ _ _ h => h) ?_ (by assumption) ?_
  rotate_left
  · (intro w hSw; (try dsimp only at hSw); go_simp; try with_reducible rfl)
  try simp only [Act.put, List.setIfInBounds_toArray, List.set_cons_zero, List.set_cons_succ]
  refine held_take 20 (oi := { dst := some 25, op := Op.load 24 (Operand.tmp 2), type := 24, pos := "law.go:22", after := #[{ on := 17, ground := Ground.guard }], guard := some (17, true) }) (v := ?_) (by kernel_rfl) rfl (by rfl) (by kernel_rfl) (by kernel_rfl) (fun _ _ _ h => h) ?_ (by assumption) ?_
  rotate_left
  · (intro w hSw; (try dsimp only at hSw); go_simp; try with_reducible rfl)
  try simp only [Act.put, List.setIfInBounds_toArray, List.set_cons_zero, List.set_cons_succ]
  refine held_one 19 (oi := { dst := some 24, op := Op.call { callee := Callee.value (Operand.func 22), args := #[Operand.tmp 23], argTypes := #[24] }, type := 22, pos := "law.go:22", after := #[{ on := 18, ground := Ground.data }, { on := 17, ground := Ground.chain }, { on := 17, ground := Ground.guard }], guard := some (17, true) }) (by kernel_rfl) rfl (fun K hK => ?_)
  go_simp
  first
    | (go_at_call 16
       refine (live3_calls _).mono ?_
       rintro e W2 ⟨rfl, b2⟩
       have B2 := hide (Below.trans (unhide (by assumption : Hid (Below w1.heap.size w1 _))) (b2.mono (Below.size (unhide (by assumption : Hid (Below w1.heap.size w1 _))))))
       clear b2)
    | (go_at_call 17
       refine (right_calls ((unhide V1).later (unhide (by assumption : Hid (Below w1.heap.size w1 _)))) ((unhide L1).later (unhide (by assumption : Hid (Below w1.heap.size w1 _)))) vn ln (unhide VN) (unhide LN) hvx hlx).mono ?_
       rintro e W2 ⟨rfl, b2⟩
       have B2 := hide (Below.trans (unhide (by assumption : Hid (Below w1.heap.size w1 _))) (b2.mono (Below.size (unhide (by assumption : Hid (Below w1.heap.size w1 _))))))
       clear b2)
    | (go_at_call 18
       refine (refRight_calls ((unhide V1).later (unhide (by assumption : Hid (Below w1.heap.size w1 _)))) ((unhide L1).later (unhide (by assumption : Hid (Below w1.heap.size w1 _)))) vn ln (unhide VN) (unhide LN) hvx hlx).mono ?_
       rintro e W2 ⟨rfl, b2⟩
       have B2 := hide (Below.trans (unhide (by assumption : Hid (Below w1.heap.size w1 _))) (b2.mono (Below.size (unhide (by assumption : Hid (Below w1.heap.size w1 _))))))
       clear b2)
    | (go_at_call 19
       refine (voter_calls ((unhide V1).later (unhide (by assumption : Hid (Below w1.heap.size w1 _)))) ((unhide L1).later (unhide (by assumption : Hid (Below w1.heap.size w1 _)))) vn ln (unhide VN) (unhide LN) hvx hlx n1).mono ?_
       rintro e W2 ⟨rfl, b2⟩
       have B2 := hide (Below.trans (unhide (by assumption : Hid (Below w1.heap.size w1 _))) (b2.mono (Below.size (unhide (by assumption : Hid (Below w1.heap.size w1 _))))))
       clear b2)
    | (go_at_call 20
       refine (refVoter_calls ((unhide V1).later (unhide (by assumption : Hid (Below w1.heap.size w1 _)))) ((unhide L1).later (unhide (by assumption : Hid (Below w1.heap.size w1 _)))) vn ln (unhide VN) (unhide LN) hvx hlx n1).mono ?_
       rintro e W2 ⟨rfl, b2⟩
       have B2 := hide (Below.trans (unhide (by assumption : Hid (Below w1.heap.size w1 _))) (b2.mono (Below.size (unhide (by assumption : Hid (Below w1.heap.size w1 _))))))
       clear b2)
    | (go_at_call 22
       refine (all_calls ((unhide V1).later (unhide (by assumption : Hid (Below w1.heap.size w1 _)))) ((unhide L1).later (unhide (by assumption : Hid (Below w1.heap.size w1 _)))) vn ln (unhide VN) (unhide LN) hvx hlx).mono ?_
       rintro e W2 ⟨spa, na, ca, rfl, hna, hoa, b2⟩
       have B2 := hide (Below.trans (unhide (by assumption : Hid (Below w1.heap.size w1 _))) (b2.mono (Below.size (unhide (by assumption : Hid (Below w1.heap.size w1 _))))))
       have NA := hide (unhide hna)
       have OA := hide hoa.ints
       (try have OB := hide ((unhide OB).later b2))
       clear hna hoa
       clear b2)
    | (go_at_call 23
       refine (refAll_calls ((unhide V1).later (unhide (by assumption : Hid (Below w1.heap.size w1 _)))) ((unhide L1).later (unhide (by assumption : Hid (Below w1.heap.size w1 _)))) vn ln (unhide VN) (unhide LN) hvx hlx).mono ?_
       rintro e W2 ⟨spb, nb, cb, rfl, hnb, hob, b2⟩
       have B2 := hide (Below.trans (unhide (by assumption : Hid (Below w1.heap.size w1 _))) (b2.mono (Below.size (unhide (by assumption : Hid (Below w1.heap.size w1 _))))))
       have NB := hide (unhide hnb)
       have OB := hide hob.ints
       (try have OA := hide ((unhide OA).later b2))
       clear hnb hob
       clear b2)
    | (go_at_call 21
       refine (sameInts_calls (unhide OA) (unhide OB) na nb (unhide NA) (unhide NB) (by rw [← unhide NA]; exact unhide AL) (by rw [← unhide NB]; exact unhide AL)).mono ?_
       rintro e W2 ⟨rfl, b2⟩
       have B2 := hide (Below.trans (unhide (by assumption : Hid (Below w1.heap.size w1 _))) (b2.mono (Below.size (unhide (by assumption : Hid (Below w1.heap.size w1 _))))))
       clear b2)
  go_wp2_with fail
  refine hK.out _ _ ?_ (fun hHeld => ?_)
  · try dsimp only
    exact ⟨cell_later (unhide (by assumption : Hid (Below w1.heap.size w1 _))) d0, cell_later (unhide (by assumption : Hid (Below w1.heap.size w1 _))) d1⟩
  clear hK K
  try simp only [Act.put, List.setIfInBounds_toArray, List.set_cons_zero, List.set_cons_succ]
  refine held_one 21 (oi := { dst := some 26, op := Op.call { callee := Callee.value (Operand.func 23), args := #[Operand.tmp 25], argTypes := #[24] }, type := 22, pos := "law.go:22", after := #[{ on := 20, ground := Ground.data }, { on := 19, ground := Ground.chain }, { on := 17, ground := Ground.guard }], guard := some (17, true) }) (by kernel_rfl) rfl (fun K hK => ?_)
  go_simp
  first
    | (go_at_call 16
       refine (live3_calls _).mono ?_
       rintro e W2 ⟨rfl, b2⟩
       have B2 := hide (Below.trans (unhide (by assumption : Hid (Below w1.heap.size w1 _))) (b2.mono (Below.size (unhide (by assumption : Hid (Below w1.heap.size w1 _))))))
       clear b2)
    | (go_at_call 17
       refine (right_calls ((unhide V1).later (unhide (by assumption : Hid (Below w1.heap.size w1 _)))) ((unhide L1).later (unhide (by assumption : Hid (Below w1.heap.size w1 _)))) vn ln (unhide VN) (unhide LN) hvx hlx).mono ?_
       rintro e W2 ⟨rfl, b2⟩
       have B2 := hide (Below.trans (unhide (by assumption : Hid (Below w1.heap.size w1 _))) (b2.mono (Below.size (unhide (by assumption : Hid (Below w1.heap.size w1 _))))))
       clear b2)
    | (go_at_call 18
       refine (refRight_calls ((unhide V1).later (unhide (by assumption : Hid (Below w1.heap.size w1 _)))) ((unhide L1).later (unhide (by assumption : Hid (Below w1.heap.size w1 _)))) vn ln (unhide VN) (unhide LN) hvx hlx).mono ?_
       rintro e W2 ⟨rfl, b2⟩
       have B2 := hide (Below.trans (unhide (by assumption : Hid (Below w1.heap.size w1 _))) (b2.mono (Below.size (unhide (by assumption : Hid (Below w1.heap.size w1 _))))))
       clear b2)
    | (go_at_call 19
       refine (voter_calls ((unhide V1).later (unhide (by assumption : Hid (Below w1.heap.size w1 _)))) ((unhide L1).later (unhide (by assumption : Hid (Below w1.heap.size w1 _)))) vn ln (unhide VN) (unhide LN) hvx hlx n1).mono ?_
       rintro e W2 ⟨rfl, b2⟩
       have B2 := hide (Below.trans (unhide (by assumption : Hid (Below w1.heap.size w1 _))) (b2.mono (Below.size (unhide (by assumption : Hid (Below w1.heap.size w1 _))))))
       clear b2)
    | (go_at_call 20
       refine (refVoter_calls ((unhide V1).later (unhide (by assumption : Hid (Below w1.heap.size w1 _)))) ((unhide L1).later (unhide (by assumption : Hid (Below w1.heap.size w1 _)))) vn ln (unhide VN) (unhide LN) hvx hlx n1).mono ?_
       rintro e W2 ⟨rfl, b2⟩
       have B2 := hide (Below.trans (unhide (by assumption : Hid (Below w1.heap.size w1 _))) (b2.mono (Below.size (unhide (by assumption : Hid (Below w1.heap.size w1 _))))))
       clear b2)
    | (go_at_call 22
       refine (all_calls ((unhide V1).later (unhide (by assumption : Hid (Below w1.heap.size w1 _)))) ((unhide L1).later (unhide (by assumption : Hid (Below w1.heap.size w1 _)))) vn ln (unhide VN) (unhide LN) hvx hlx).mono ?_
       rintro e W2 ⟨spa, na, ca, rfl, hna, hoa, b2⟩
       have B2 := hide (Below.trans (unhide (by assumption : Hid (Below w1.heap.size w1 _))) (b2.mono (Below.size (unhide (by assumption : Hid (Below w1.heap.size w1 _))))))
       have NA := hide (unhide hna)
       have OA := hide hoa.ints
       (try have OB := hide ((unhide OB).later b2))
       clear hna hoa
       clear b2)
    | (go_at_call 23
       refine (refAll_calls ((unhide V1).later (unhide (by assumption : Hid (Below w1.heap.size w1 _)))) ((unhide L1).later (unhide (by assumption : Hid (Below w1.heap.size w1 _)))) vn ln (unhide VN) (unhide LN) hvx hlx).mono ?_
       rintro e W2 ⟨spb, nb, cb, rfl, hnb, hob, b2⟩
       have B2 := hide (Below.trans (unhide (by assumption : Hid (Below w1.heap.size w1 _))) (b2.mono (Below.size (unhide (by assumption : Hid (Below w1.heap.size w1 _))))))
       have NB := hide (unhide hnb)
       have OB := hide hob.ints
       (try have OA := hide ((unhide OA).later b2))
       clear hnb hob
       clear b2)
    | (go_at_call 21
       refine (sameInts_calls (unhide OA) (unhide OB) na nb (unhide NA) (unhide NB) (by rw [← unhide NA]; exact unhide AL) (by rw [← unhide NB]; exact unhide AL)).mono ?_
       rintro e W2 ⟨rfl, b2⟩
       have B2 := hide (Below.trans (unhide (by assumption : Hid (Below w1.heap.size w1 _))) (b2.mono (Below.size (unhide (by assumption : Hid (Below w1.heap.size w1 _))))))
       clear b2)
  go_wp2_with fail
  refine hK.out _ _ ?_ (fun hHeld => ?_)
  · try dsimp only
    exact ⟨cell_later (unhide (by assumption : Hid (Below w1.heap.size w1 _))) d0, cell_later (unhide (by assumption : Hid (Below w1.heap.size w1 _))) d1⟩
  clear hK K
  try simp only [Act.put, List.setIfInBounds_toArray, List.set_cons_zero, List.set_cons_succ]
  refine held_one 22 (oi := { dst := some 27, op := Op.call { callee := Callee.value (Operand.func 21), args := #[Operand.tmp 24, Operand.tmp 26], argTypes := #[22, 22] }, type := 4, pos := "law.go:22", after := #[{ on := 19, ground := Ground.data }, { on := 21, ground := Ground.data }, { on := 21, ground := Ground.chain }, { on := 17, ground := Ground.guard }], guard := some (17, true) }) (by kernel_rfl) rfl (fun K hK => ?_)
  go_simp
  first
    | (go_at_call 16
       refine (live3_calls _).mono ?_
       rintro e W2 ⟨rfl, b2⟩
       have B2 := hide (Below.trans (unhide (by assumption : Hid (Below w1.heap.size w1 _))) (b2.mono (Below.size (unhide (by assumption : Hid (Below w1.heap.size w1 _))))))
       clear b2)
    | (go_at_call 17
       refine (right_calls ((unhide V1).later (unhide (by assumption : Hid (Below w1.heap.size w1 _)))) ((unhide L1).later (unhide (by assumption : Hid (Below w1.heap.size w1 _)))) vn ln (unhide VN) (unhide LN) hvx hlx).mono ?_
       rintro e W2 ⟨rfl, b2⟩
       have B2 := hide (Below.trans (unhide (by assumption : Hid (Below w1.heap.size w1 _))) (b2.mono (Below.size (unhide (by assumption : Hid (Below w1.heap.size w1 _))))))
       clear b2)
    | (go_at_call 18
       refine (refRight_calls ((unhide V1).later (unhide (by assumption : Hid (Below w1.heap.size w1 _)))) ((unhide L1).later (unhide (by assumption : Hid (Below w1.heap.size w1 _)))) vn ln (unhide VN) (unhide LN) hvx hlx).mono ?_
       rintro e W2 ⟨rfl, b2⟩
       have B2 := hide (Below.trans (unhide (by assumption : Hid (Below w1.heap.size w1 _))) (b2.mono (Below.size (unhide (by assumption : Hid (Below w1.heap.size w1 _))))))
       clear b2)
    | (go_at_call 19
       refine (voter_calls ((unhide V1).later (unhide (by assumption : Hid (Below w1.heap.size w1 _)))) ((unhide L1).later (unhide (by assumption : Hid (Below w1.heap.size w1 _)))) vn ln (unhide VN) (unhide LN) hvx hlx n1).mono ?_
       rintro e W2 ⟨rfl, b2⟩
       have B2 := hide (Below.trans (unhide (by assumption : Hid (Below w1.heap.size w1 _))) (b2.mono (Below.size (unhide (by assumption : Hid (Below w1.heap.size w1 _))))))
       clear b2)
    | (go_at_call 20
       refine (refVoter_calls ((unhide V1).later (unhide (by assumption : Hid (Below w1.heap.size w1 _)))) ((unhide L1).later (unhide (by assumption : Hid (Below w1.heap.size w1 _)))) vn ln (unhide VN) (unhide LN) hvx hlx n1).mono ?_
       rintro e W2 ⟨rfl, b2⟩
       have B2 := hide (Below.trans (unhide (by assumption : Hid (Below w1.heap.size w1 _))) (b2.mono (Below.size (unhide (by assumption : Hid (Below w1.heap.size w1 _))))))
       clear b2)
    | (go_at_call 22
       refine (all_calls ((unhide V1).later (unhide (by assumption : Hid (Below w1.heap.size w1 _)))) ((unhide L1).later (unhide (by assumption : Hid (Below w1.heap.size w1 _)))) vn ln (unhide VN) (unhide LN) hvx hlx).mono ?_
       rintro e W2 ⟨spa, na, ca, rfl, hna, hoa, b2⟩
       have B2 := hide (Below.trans (unhide (by assumption : Hid (Below w1.heap.size w1 _))) (b2.mono (Below.size (unhide (by assumption : Hid (Below w1.heap.size w1 _))))))
       have NA := hide (unhide hna)
       have OA := hide hoa.ints
       (try have OB := hide ((unhide OB).later b2))
       clear hna hoa
       clear b2)
    | (go_at_call 23
       refine (refAll_calls ((unhide V1).later (unhide (by assumption : Hid (Below w1.heap.size w1 _)))) ((unhide L1).later (unhide (by assumption : Hid (Below w1.heap.size w1 _)))) vn ln (unhide VN) (unhide LN) hvx hlx).mono ?_
       rintro e W2 ⟨spb, nb, cb, rfl, hnb, hob, b2⟩
       have B2 := hide (Below.trans (unhide (by assumption : Hid (Below w1.heap.size w1 _))) (b2.mono (Below.size (unhide (by assumption : Hid (Below w1.heap.size w1 _))))))
       have NB := hide (unhide hnb)
       have OB := hide hob.ints
       (try have OA := hide ((unhide OA).later b2))
       clear hnb hob
       clear b2)
    | (go_at_call 21
       refine (sameInts_calls (unhide OA) (unhide OB) na nb (unhide NA) (unhide NB) (by rw [← unhide NA]; exact unhide AL) (by rw [← unhide NB]; exact unhide AL)).mono ?_
       rintro e W2 ⟨rfl, b2⟩
       have B2 := hide (Below.trans (unhide (by assumption : Hid (Below w1.heap.size w1 _))) (b2.mono (Below.size (unhide (by assumption : Hid (Below w1.heap.size w1 _))))))
       clear b2)
  go_wp2_with fail
  refine hK.out _ _ ?_ (fun hHeld => ?_)
  · try dsimp only
    exact ⟨cell_later (unhide (by assumption : Hid (Below w1.heap.size w1 _))) d0, cell_later (unhide (by assumption : Hid (Below w1.heap.size w1 _))) d1⟩
  clear hK K
  try simp only [Act.put, List.setIfInBounds_toArray, List.set_cons_zero, List.set_cons_succ]
  refine held_take 23 (oi := { dst := some 28, op := Op.pick (Operand.tmp 22) (Operand.tmp 27) (Operand.const (Value.bool false)), type := 4, pos := "law.go:22", after := #[{ on := 17, ground := Ground.data }, { on := 22, ground := Ground.data }], guard := none }) (v := ?_) (by kernel_rfl) rfl (by rfl) (by kernel_rfl) (by kernel_rfl) (fun _ _ _ h => h) ?_ (by assumption) ?_
  rotate_left
  · (intro w hSw; (try dsimp only at hSw); go_simp; try with_reducible rfl)
  try simp only [Act.put, List.setIfInBounds_toArray, List.set_cons_zero, List.set_cons_succ]
  refine held_take 24 (oi := { dst := some 4, op := Op.assign (Operand.tmp 28), type := 4, pos := "law.go:22", after := #[{ on := 23, ground := Ground.data }, { on := 22, ground := Ground.chain }, { on := 0, ground := Ground.phase }, { on := 1, ground := Ground.phase }, { on := 2, ground := Ground.phase }, { on := 3, ground := Ground.phase }, { on := 4, ground := Ground.phase }, { on := 5, ground := Ground.phase }, { on := 6, ground := Ground.phase }, { on := 7, ground := Ground.phase }, { on := 8, ground := Ground.phase }, { on := 9, ground := Ground.phase }, { on := 10, ground := Ground.phase }, { on := 11, ground := Ground.phase }, { on := 12, ground := Ground.phase }, { on := 13, ground := Ground.phase }, { on := 14, ground := Ground.phase }, { on := 15, ground := Ground.phase }, { on := 16, ground := Ground.phase }, { on := 17, ground := Ground.phase }, { on := 18, ground := Ground.phase }, { on := 19, ground := Ground.phase }, { on := 20, ground := Ground.phase }, { on := 21, ground := Ground.phase }, { on := 22, ground := Ground.phase }, { on := 23, ground := Ground.phase }], guard := none }) (v := ?_) (by kernel_rfl) rfl (by rfl) (by kernel_rfl) (by kernel_rfl) (fun _ _ _ h => h) ?_ (by assumption) ?_
  rotate_left
  · (intro w hSw; (try dsimp only at hSw); go_simp; try with_reducible rfl)
  try simp only [Act.put, List.setIfInBounds_toArray, List.set_cons_zero, List.set_cons_succ]
  refine wpAnyH_done (by kernel_rfl) ?_ _
  go_wp2
  go_ret
  exact ⟨by simp, by first | exact (unhide b1).trans ((unhide (by assumption : Hid (Below w1.heap.size w1 _))).mono (by have := (unhide b1).size; omega)) | (rw [hD]; exact (unhide b1).trans ((unhide (by assumption : Hid (Below w1.heap.size w1 _))).mono (by have := (unhide b1).size; omega)))⟩

set_option maxRecDepth 100000 in
theorem lifted (os : Os) (started : os.Started) (H : Type) (enc : TypeId × Value → H) :
    ReturnsInHanded {} Try.checked os 3 .any (Rows.memberRightSpec.pre6 enc Try.prog Try.f3 Rows.memberRightRow.domain false) (Rows.memberRightSpec.post enc Try.prog Try.f3 false true false false) := by
  refine returnsInHanded_of_change_sized (C := Try.checked) own started (by kernel_rfl) Try.func3
    (ChangeSpec.witness6 (enc := enc) (C := Try.checked) false ⟨#[], #[.agg #[.slice none 0 0, .slice none 0 0], .int .i64 0], []⟩ 8 (by kernel_rfl) (by kernel_rfl) (by kernel_rfl) (by kernel_rfl)) ?_
  intro W base args ds gs before hval0 hW hcnd hsz _
  have hval : ∀ (j : Nat) t v, Try.f3.params[j]? = some t → args[j]? = some v → Value.okWide Try.prog W .any base t v := hval0
  have hW' := hW
  obtain ⟨p, q, hA0, hV, rfl, hfz, hnd⟩ := hW
  have hA : DataW.TrodAll enc Try.prog W 0 (fun _ => true) true Try.f3.params.toList args.toList ds p := hA0
  rw [Try.params3] at hA hval
  obtain ⟨v0, vs0, d0, ds0, p0, q0, hargs, rfl, rfl, h0, r0⟩ := trodAll_cons hA
  obtain ⟨v1, vs1, d1, ds1, p1, q1, rfl, rfl, rfl, h1, r1⟩ := trodAll_cons r0
  obtain ⟨rfl, rfl, rfl⟩ := trodAll_nil r1
  obtain rfl : args = #[v0, v1] := by cases args; simp_all
  obtain ⟨rfl, rfl⟩ := trodVars_none hV
  have k0 := h0
  have lt0 : ∀ x ∈ p0, x.block < W.heap.size := by obtain ⟨m, hm⟩ := k0; exact DataW.trod_lt m _ _ _ hm
  obtain ⟨va0, vc0, vs0, la0, lc0, ls0, rfl, hsv0, hV0, hzv0, hsl0, hL0, hzl0⟩ := open_membersS (hval 0 24 v0 rfl rfl) h0 (fun n hn => of_decide_eq_true (List.all_eq_true.1 hsz n (DataW.weights_mem_each (j := 0) (d := d0) rfl rfl n hn)))
  obtain ⟨n1, rfl, rfl, rfl, w1⟩ := open_int Try.underlying3 (hval 1 3 v1 rfl rfl) h1
  have hn1 := i64_bounds w1
  clear hA0 hval0
  refine (walk va0 vc0 vs0 la0 lc0 ls0 n1 W hsv0 hV0 hzv0 hsl0 hL0 hzl0 hn1).mono fun e W' ⟨he, bel⟩ => ?_
  subst he
  exact ⟨_, rfl, _, _, _, [], _, [], hW', trodAll_mk1 (shut_bool Try.underlying4 _), (trodAll_cons_mk (Below.trod laidOut (by kernel_rfl) (of_decide_eq_true (by kernel_rfl)) k0 bel lt0) (trodAll_cons_mk (shut_int Try.underlying3 w1) trodAll_mk0)), rfl, bel.frame _, fun h => by cases h⟩

theorem proved : Rows.MemberRightSaid :=
  OpenClaim.holds_of_wide 3 Try.f3 rfl rfl rfl rfl rfl rfl rfl ⟨rfl, rfl, rfl, rfl, rfl⟩ rfl rfl rfl rfl rfl (by kernel_rfl) Try.func3 (by kernel_rfl)
    (of_decide_eq_true (by kernel_rfl)) (by unfold Func.isWrapper; first | (rw [if_pos (by decide +kernel)]; kernel_rfl) | (rw [if_neg (by decide +kernel)]; exact ⟨rfl, rfl⟩))
    (fun os started H enc _ => lifted os started H enc)
end Go.Proofs.Ytnclkkoefejjiaa.memberRight
namespace Go.Proofs.Ytnclkkoefejjiaa
theorem memberRight_holds : Rows.MemberRightSaid := memberRight.proved
#print axioms memberRight_holds
end Go.Proofs.Ytnclkkoefejjiaa
