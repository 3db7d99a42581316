/- Proved: two quorums have a voter in common: what one list leaves out is none, whatever the members and the numbers; no condition. -/
import Derived.Test.YtnclkkoefejjiaaMbp
import Derived.Test.YtnclkkoefejjiaaHld
/- row64S -/
namespace Go.Proofs.Ytnclkkoefejjiaa.memberHalves
open Go.ChangeShapes Go.WideShapes Go.ChangeAt Go.RowKit
set_option linter.unusedVariables false

theorem own : ownKnob Try.prog.godebug = none := by kernel_rfl
theorem laidOut : laidOutB Try.prog = true := by kernel_rfl

/-- What is left out of 1 to k. -/
def restTo (yes : List Int) : Nat → List Int
  | 0 => []
  | k + 1 => if ((k : Int) + 1) ∈ yes then restTo yes k else restTo yes k ++ [(k : Int) + 1]
theorem rest_mem (yes : List Int) : ∀ (k : Nat) (x : Int), x ∈ restTo yes k ↔ (1 ≤ x ∧ x ≤ k ∧ x ∉ yes)
  | 0, x => by simp [restTo]; omega
  | k + 1, x => by
    have ih := rest_mem yes k x
    unfold restTo
    split
    · rename_i h
      rw [ih]
      constructor
      · rintro ⟨h1, h2, h3⟩; exact ⟨h1, by omega, h3⟩
      · rintro ⟨h1, h2, h3⟩
        refine ⟨h1, ?_, h3⟩
        have : x ≠ (k : Int) + 1 := fun e => h3 (e ▸ h)
        omega
    · rename_i h
      rw [List.mem_append, ih, List.mem_singleton]
      constructor
      · rintro (⟨h1, h2, h3⟩ | rfl)
        · exact ⟨h1, by omega, h3⟩
        · exact ⟨by omega, by omega, h⟩
      · rintro ⟨h1, h2, h3⟩
        by_cases e : x = (k : Int) + 1
        · exact .inr e
        · exact .inl ⟨h1, by omega, h3⟩
theorem rest_len (yes : List Int) : ∀ k, (restTo yes k).length ≤ k
  | 0 => by simp [restTo]
  | k + 1 => by
    have ih := rest_len yes k
    unfold restTo
    split
    · omega
    · simp only [List.length_append, List.length_cons, List.length_nil]; omega
theorem all_right {v l a : List Int} (h : rightM v l = true → ∀ x ∈ v, x ∈ a) : quorumM v l a = rightM v l := by
  cases hr : rightM v l with
  | false => simp [quorumM, hr]
  | true => rw [quorum_all (h hr), hr]
set_option maxRecDepth 20000 in
set_option maxHeartbeats 8000000 in
theorem walk (va0 : Option Addr) (vc0 : Nat) (vs0 : List Int) (la0 : Option Addr) (lc0 : Nat) (ls0 : List Int) (a1 : Option Addr) (c1 : Nat) (l1 : List Int) (w : World)
    (hsv0 : vs0.length * 8 ≤ 140737488351232) (hV0 : IntsAt w va0 vs0) (_ : va0 = none → vc0 = 0) (hsl0 : ls0.length * 8 ≤ 140737488351232) (hL0 : IntsAt w la0 ls0) (_ : la0 = none → lc0 = 0)
    (hs1 : l1.length * 8 ≤ 140737488351232) (hb1 : IntsAt w a1 l1) (hz1 : a1 = none → c1 = 0) :
    Calls Try.prog 8 #[mV va0 vs0.length vc0 la0 ls0.length lc0, .slice a1 l1.length c1] w fun e w' => e = .returned (.bool true) ∧ Below w.heap.size w w' := by
  obtain ⟨vn, hvn⟩ : ∃ n, vs0.length = n := ⟨_, rfl⟩
  obtain ⟨ln, hln⟩ : ∃ n, ls0.length = n := ⟨_, rfl⟩
  obtain ⟨n1, hn1⟩ : ∃ n, l1.length = n := ⟨_, rfl⟩
  rw [hvn] at hsv0
  rw [hln] at hsl0
  rw [hn1] at hs1
  rw [hvn, hln, hn1]
  have hvx : vn ≤ maxLen := by simp only [maxLen]; omega
  have hlx : ln ≤ maxLen := by simp only [maxLen]; omega
  have m1 : n1 ≤ maxLen := by simp only [maxLen]; omega
  have X1 := hide (heap_new w (mB va0 vn vc0 la0 ln lc0))
  have b1 := hide (show Below w.heap.size w (w.alloc (mB va0 vn vc0 la0 ln lc0)) from (Below.refl _ _).alloc (Nat.le_refl _) _)
  have V1 := hide (hV0.later (unhide b1))
  have L1 := hide (hL0.later (unhide b1))
  have P1 := hide (hb1.later (unhide b1))
  have VN := hide hvn
  have LN := hide hln
  have N1 := hide hn1
  have Z1 := hide hz1
  have c0 := box_cell (unhide X1) 0 _ rfl
  have c1' := box_cell (unhide X1) 1 _ rfl
  clear hV0 hL0 hb1 hvn hln hn1 hz1
  have key := hide (show ∀ W : World, Below (w.alloc (mB va0 vn vc0 la0 ln lc0)).heap.size (w.alloc (mB va0 vn vc0 la0 ln lc0)) W → W.cell? ⟨w.heap.size, 0, none⟩ = some (.slice va0 vn vc0) ∧ W.cell? ⟨w.heap.size, 1, none⟩ = some (.slice la0 ln lc0) from fun W h => ⟨cell_later h c0, cell_later h c1'⟩)
  have ZE := hide (show (w.alloc (mB va0 vn vc0 la0 ln lc0)).heap.size = w.heap.size + 1 by simp)
  go_enter Try.func8, Try.ntmps8
  go_wp2_with fail
  generalize hD : w.heap.size = D at *
  generalize w.alloc (mB va0 vn vc0 la0 ln lc0) = w1 at *
  clear c0 c1'
  go_loopw [5, 6] (fun s i wr => ∃ (k n c : Nat) (sp : Option Addr), k ≤ 9 ∧ s = .slice sp n c ∧ i = .int .i64 ((k : Int) + 1) ∧ Hid ((restTo l1 k).length = n) ∧ Hid (OwnI (D + 1) wr sp c (restTo l1 k)) ∧ Hid (Below (D + 1) w1 wr)) (fun _ i _ => (10 - intOf i).toNat)
  case atStart => exact ⟨0, 0, 0, none, by omega, rfl, rfl, rfl, OwnI.ofNil _ _, Below.refl _ _⟩
  case round =>
    obtain ⟨k, n, c, sp, hk, rfl, rfl, hn, ho, hB⟩ := hrel
    have P2 := hide ((unhide P1).later (by rw [unhide ZE]; exact unhide hB))
    by_cases hk9 : k < 9
    · have hi1 : (k : Int) + 1 ≤ 9 := by omega
      go_wp2_with fail
      refine (in_calls (unhide P2) ((k : Int) + 1) n1 (unhide N1) m1).mono ?_
      rintro e w2 ⟨rfl, rfl⟩
      by_cases hin : ((k : Int) + 1) ∈ l1
      · have e1 : decide (((k : Int) + 1) ∈ l1) = true := by simp [hin]
        have RE := hide (show restTo l1 (k + 1) = restTo l1 k by rw [restTo, if_pos hin])
        rw [e1]
        clear e1 hin
        go_wp2
        refine ⟨⟨k + 1, n, c, sp, by omega, rfl, by go_num, ?_, ?_, unhide hB⟩, by simp [intOf]; omega⟩
        · rw [unhide RE]; exact hn
        · rw [unhide RE]; exact ho
      · have e1 : decide (((k : Int) + 1) ∈ l1) = false := by simp [hin]
        have RE := hide (show restTo l1 (k + 1) = restTo l1 k ++ [(k : Int) + 1] by rw [restTo, if_neg hin])
        rw [e1]
        clear e1 hin
        go_wp2_with (at_builtin; refine unhide ?_)
        refine hide ?_
        have ba : Below w2.heap.size w2 (w2.alloc (.cells #[.int .i64 ((k : Int) + 1)] 3)) := (Below.refl _ _).alloc (Nat.le_refl _) _
        refine wpList_appendI rfl (.tmp 16) (.tmp 18) rfl (D + 1) sp n c (restTo l1 k) rfl (unhide hn) ((unhide ho).later ba) (some ⟨w2.heap.size, 0, none⟩) 1 1 rfl [(k : Int) + 1] rfl (ints_one (heap_new _ _) (by omega)) (fun h => by cases h) (by have := rest_len l1 k; omega) (by have h1 := (unhide hB).size; have h2 := ba.size; have h3 := unhide ZE; omega) ?_
        intro sp3 n3 k3 w3 hn3 o3 g3
        have O3 := hide o3
        have N3 := hide (unhide hn3)
        have B3 := hide ((unhide hB).trans ((ba.mono (by have h1 := (unhide hB).size; have h3 := unhide ZE; omega)).trans (GrewI.below g3 ((unhide ho).later ba) (by have h1 := (unhide hB).size; have h2 := ba.size; have h3 := unhide ZE; omega))))
        rw [← unhide RE] at O3 N3
        clear o3 g3 hn3 ba
        go_wp2
        exact ⟨⟨k + 1, n3, k3, sp3, by omega, rfl, by go_num, unhide N3, unhide O3, unhide B3⟩, by simp [intOf]; omega⟩
    · obtain rfl : k = 9 := by omega
      have NB := hide (show n ≤ 9 by rw [← unhide hn]; exact rest_len l1 9)
      have RI := hide (unhide ho).ints
      have RZ := hide (unhide ho).nil0
      have hE := hide (show D + 1 ≤ wr.heap.size by have h1 := (unhide hB).size; have h3 := unhide ZE; omega)
      go_wp2_with (at_builtin; refine unhide ?_)
      refine hide ?_
      generalize hF : wr.heap.size = E4 at *
      have b5 : Below E4 wr (wr.alloc (.cells #[] 3)) := (Below.refl _ _).alloc (by omega) _
      have o5 := OwnI.empty wr E4 (by omega)
      rw [hF] at o5
      refine wpList_appendI rfl (.tmp 20) (.tmp 21) rfl E4 (some ⟨E4, 0, none⟩) 0 0 [] rfl rfl o5 sp n c rfl (restTo l1 9) (unhide hn) ((unhide RI).later (by rw [hF]; exact b5)) (unhide RZ) (by have := unhide NB; simp only [List.length_nil]; omega) (by have := b5.size; omega) ?_
      intro sp6 n6 k6 w6 hn6 o6 g6
      rw [List.nil_append] at hn6 o6
      have B6 := hide (b5.trans (GrewI.below g6 o5 (by have := b5.size; omega)))
      have O6 := hide o6
      have N6 := hide (unhide hn6)
      have P6 := hide ((unhide P2).later (by rw [hF]; exact unhide B6))
      clear b5 o5 o6 g6 hn6
      go_wp2_with (at_builtin; refine unhide ?_)
      refine hide ?_
      refine wpList_appendI rfl (.tmp 22) (.tmp 23) rfl E4 sp6 n6 k6 (restTo l1 9) rfl (unhide N6) (unhide O6) a1 n1 c1 rfl l1 (unhide N1) (unhide P6) (unhide Z1) (by have := rest_len l1 9; omega) (by have := (unhide B6).size; omega) ?_
      intro sp7 n7 k7 w7 hn7 o7 g7
      have B7 := hide ((unhide B6).trans (GrewI.below g7 (unhide O6) (by have := (unhide B6).size; omega)))
      have Y7 := hide o7.ints
      have N7 := hide (unhide hn7)
      have M7 := hide (show n7 = n + n1 by rw [← unhide hn7, List.length_append, unhide N1, unhide hn])
      have R7 := hide ((unhide RI).later (by rw [hF]; exact unhide B7))
      have A7 := hide (show Below (D + 1) w1 w7 from (unhide hB).trans ((unhide B7).mono (unhide hE)))
      have G7 := hide (show Below w7.heap.size w7 w7.drew from (Below.refl _ _).drew)
      clear o7 g7 hn7 P6 O6 N6 B6
      have V7 := hide ((unhide V1).later (by rw [unhide ZE]; exact unhide A7))
      have L7 := hide ((unhide L1).later (by rw [unhide ZE]; exact unhide A7))
      have Q7 := hide ((unhide P1).later (by rw [unhide ZE]; exact unhide A7))
      have m7 : n7 ≤ maxLen := by have := unhide M7; have := unhide NB; simp only [maxLen]; omega
      have mr : n ≤ maxLen := by have := unhide NB; simp only [maxLen]; omega
      obtain ⟨d0, d1⟩ := unhide key w7 (by rw [unhide ZE]; exact unhide A7)
      have QN := hide (quorum_nil vs0 ls0)
      have QA := hide (show quorumM vs0 ls0 (restTo l1 9 ++ l1) = rightM vs0 ls0 from all_right (fun hr x hx => by
        have := rise_in vs0 0 (by omega) (right_parts hr).1 x hx
        rw [List.mem_append, rest_mem]
        by_cases h : x ∈ l1
        · exact .inr h
        · exact .inl ⟨by omega, by omega, h⟩))
      have QH := hide (show quorumM vs0 ls0 l1 = true → quorumM vs0 ls0 (restTo l1 9) = false from fun h => by
        cases hq : quorumM vs0 ls0 (restTo l1 9) with
        | false => rfl
        | true => exact absurd ⟨h, hq⟩ (quorum_halves (fun x _ hx hr => ((rest_mem l1 9 x).1 hr).2.2 hx)))
      generalize restTo l1 9 = rs at *
      go_wp2_with fail
      cases hqa : rightM vs0 ls0 <;> cases hqy : quorumM vs0 ls0 l1
      case false.true =>
        have := quorum_right hqy
        rw [hqa] at this
        cases this
      case true.true =>
        have hqr := hide (unhide QH hqy)
        rw [hqa] at QA
        refine wp_region_held_drew (S := fun w' => w'.cell? ⟨D, 0, none⟩ = some (.slice va0 vn vc0) ∧ w'.cell? ⟨D, 1, none⟩ = some (.slice la0 ln lc0)) (by kernel_rfl) ?_ (fun hHeld => ?_)
        · try dsimp only
          exact ⟨cell_later (unhide (by assumption : Hid (Below w7.heap.size w7 _))) d0, cell_later (unhide (by assumption : Hid (Below w7.heap.size w7 _))) d1⟩
        refine held_one 0 (oi := { dst := some 25, op := Op.call { callee := Callee.value (Operand.func 16), args := #[], argTypes := #[] }, type := 4, pos := "law.go:77", after := #[], guard := none }) (by kernel_rfl) rfl (fun K hK => ?_)
        go_simp
        first
          | (go_at_call 16
             refine (live3_calls _).mono ?_
             rintro e W2 ⟨rfl, b2⟩
             have B2 := hide (Below.trans (unhide (by assumption : Hid (Below w7.heap.size w7 _))) (b2.mono (Below.size (unhide (by assumption : Hid (Below w7.heap.size w7 _))))))
             clear b2)
          | (go_at_call 17
             refine (right_calls ((unhide V7).later (unhide (by assumption : Hid (Below w7.heap.size w7 _)))) ((unhide L7).later (unhide (by assumption : Hid (Below w7.heap.size w7 _)))) vn ln (unhide VN) (unhide LN) hvx hlx).mono ?_
             rw [hqa]
             rintro e W2 ⟨rfl, b2⟩
             have B2 := hide (Below.trans (unhide (by assumption : Hid (Below w7.heap.size w7 _))) (b2.mono (Below.size (unhide (by assumption : Hid (Below w7.heap.size w7 _))))))
             clear b2)
          | (go_at_call_of 25 (Value.slice a1 n1 c1)
             refine (quorum_calls ((unhide V7).later (unhide (by assumption : Hid (Below w7.heap.size w7 _)))) ((unhide L7).later (unhide (by assumption : Hid (Below w7.heap.size w7 _)))) ((unhide Q7).later (unhide (by assumption : Hid (Below w7.heap.size w7 _)))) vn ln n1 (unhide VN) (unhide LN) (unhide N1) hvx hlx m1).mono ?_
             rw [hqy]
             rintro e W2 ⟨rfl, b2⟩
             have B2 := hide (Below.trans (unhide (by assumption : Hid (Below w7.heap.size w7 _))) (b2.mono (Below.size (unhide (by assumption : Hid (Below w7.heap.size w7 _))))))
             clear b2)
          | (go_at_call_of 25 (Value.slice sp n c)
             refine (quorum_calls ((unhide V7).later (unhide (by assumption : Hid (Below w7.heap.size w7 _)))) ((unhide L7).later (unhide (by assumption : Hid (Below w7.heap.size w7 _)))) ((unhide R7).later (unhide (by assumption : Hid (Below w7.heap.size w7 _)))) vn ln n (unhide VN) (unhide LN) (unhide hn) hvx hlx mr).mono ?_
             rw [unhide hqr]
             rintro e W2 ⟨rfl, b2⟩
             have B2 := hide (Below.trans (unhide (by assumption : Hid (Below w7.heap.size w7 _))) (b2.mono (Below.size (unhide (by assumption : Hid (Below w7.heap.size w7 _))))))
             clear b2)
          | (go_at_call_of 25 (Value.slice sp7 n7 k7)
             refine (quorum_calls ((unhide V7).later (unhide (by assumption : Hid (Below w7.heap.size w7 _)))) ((unhide L7).later (unhide (by assumption : Hid (Below w7.heap.size w7 _)))) ((unhide Y7).later (unhide (by assumption : Hid (Below w7.heap.size w7 _)))) vn ln n7 (unhide VN) (unhide LN) (unhide N7) hvx hlx m7).mono ?_
             rw [unhide QA]
             rintro e W2 ⟨rfl, b2⟩
             have B2 := hide (Below.trans (unhide (by assumption : Hid (Below w7.heap.size w7 _))) (b2.mono (Below.size (unhide (by assumption : Hid (Below w7.heap.size w7 _))))))
             clear b2)
          | (go_at_call_of 25 (Value.slice none 0 0)
             refine (quorum_calls ((unhide V7).later (unhide (by assumption : Hid (Below w7.heap.size w7 _)))) ((unhide L7).later (unhide (by assumption : Hid (Below w7.heap.size w7 _)))) (ints_nil _ _) vn ln 0 (unhide VN) (unhide LN) rfl hvx hlx (by simp [maxLen])).mono ?_
             rw [unhide QN]
             rintro e W2 ⟨rfl, b2⟩
             have B2 := hide (Below.trans (unhide (by assumption : Hid (Below w7.heap.size w7 _))) (b2.mono (Below.size (unhide (by assumption : Hid (Below w7.heap.size w7 _))))))
             clear b2)
        go_wp2_with fail
        refine hK.out _ _ ?_ (fun hHeld => ?_)
        · try dsimp only
          exact ⟨cell_later (unhide (by assumption : Hid (Below w7.heap.size w7 _))) d0, cell_later (unhide (by assumption : Hid (Below w7.heap.size w7 _))) d1⟩
        clear hK K
        try simp only [Act.put, List.setIfInBounds_toArray, List.set_cons_zero, List.set_cons_succ]
        refine held_take 1 (oi := { dst := some 26, op := Op.move (Operand.tmp 25), type := 4, pos := "law.go:77", after := #[{ on := 0, ground := Ground.data }, { on := 0, ground := Ground.chain }], guard := none }) (v := ?_) (by kernel_rfl) rfl (by rfl) (by kernel_rfl) (by kernel_rfl) (fun _ _ _ h => h) ?_ (by assumption) ?_
        rotate_left
        · (intro w hSw; (try dsimp only at hSw); go_simp; try with_reducible rfl)
        try simp only [Act.put, List.setIfInBounds_toArray, List.set_cons_zero, List.set_cons_succ]
        refine held_take 2 (oi := { dst := some 27, op := Op.load 24 (Operand.tmp 2), type := 24, pos := "law.go:77", after := #[{ on := 1, ground := Ground.guard }], guard := some (1, true) }) (v := ?_) (by kernel_rfl) rfl (by rfl) (by kernel_rfl) (by kernel_rfl) (fun _ _ _ h => h) ?_ (by assumption) ?_
        rotate_left
        · (intro w hSw; (try dsimp only at hSw); go_simp; try with_reducible rfl)
        try simp only [Act.put, List.setIfInBounds_toArray, List.set_cons_zero, List.set_cons_succ]
        refine held_take 3 (oi := { dst := some 28, op := Op.move (Operand.tmp 1), type := 22, pos := "law.go:77", after := #[{ on := 1, ground := Ground.guard }], guard := some (1, true) }) (v := ?_) (by kernel_rfl) rfl (by rfl) (by kernel_rfl) (by kernel_rfl) (fun _ _ _ h => h) ?_ (by assumption) ?_
        rotate_left
        · (intro w hSw; (try dsimp only at hSw); go_simp; try with_reducible rfl)
        try simp only [Act.put, List.setIfInBounds_toArray, List.set_cons_zero, List.set_cons_succ]
        refine held_one 4 (oi := { dst := some 29, op := Op.call { callee := Callee.value (Operand.func 25), args := #[Operand.tmp 27, Operand.tmp 28], argTypes := #[24, 22] }, type := 4, pos := "law.go:77", after := #[{ on := 2, ground := Ground.data }, { on := 3, ground := Ground.data }, { on := 1, ground := Ground.chain }, { on := 1, ground := Ground.guard }], guard := some (1, true) }) (by kernel_rfl) rfl (fun K hK => ?_)
        go_simp
        first
          | (go_at_call 16
             refine (live3_calls _).mono ?_
             rintro e W2 ⟨rfl, b2⟩
             have B2 := hide (Below.trans (unhide (by assumption : Hid (Below w7.heap.size w7 _))) (b2.mono (Below.size (unhide (by assumption : Hid (Below w7.heap.size w7 _))))))
             clear b2)
          | (go_at_call 17
             refine (right_calls ((unhide V7).later (unhide (by assumption : Hid (Below w7.heap.size w7 _)))) ((unhide L7).later (unhide (by assumption : Hid (Below w7.heap.size w7 _)))) vn ln (unhide VN) (unhide LN) hvx hlx).mono ?_
             rw [hqa]
             rintro e W2 ⟨rfl, b2⟩
             have B2 := hide (Below.trans (unhide (by assumption : Hid (Below w7.heap.size w7 _))) (b2.mono (Below.size (unhide (by assumption : Hid (Below w7.heap.size w7 _))))))
             clear b2)
          | (go_at_call_of 25 (Value.slice a1 n1 c1)
             refine (quorum_calls ((unhide V7).later (unhide (by assumption : Hid (Below w7.heap.size w7 _)))) ((unhide L7).later (unhide (by assumption : Hid (Below w7.heap.size w7 _)))) ((unhide Q7).later (unhide (by assumption : Hid (Below w7.heap.size w7 _)))) vn ln n1 (unhide VN) (unhide LN) (unhide N1) hvx hlx m1).mono ?_
             rw [hqy]
             rintro e W2 ⟨rfl, b2⟩
             have B2 := hide (Below.trans (unhide (by assumption : Hid (Below w7.heap.size w7 _))) (b2.mono (Below.size (unhide (by assumption : Hid (Below w7.heap.size w7 _))))))
             clear b2)
          | (go_at_call_of 25 (Value.slice sp n c)
             refine (quorum_calls ((unhide V7).later (unhide (by assumption : Hid (Below w7.heap.size w7 _)))) ((unhide L7).later (unhide (by assumption : Hid (Below w7.heap.size w7 _)))) ((unhide R7).later (unhide (by assumption : Hid (Below w7.heap.size w7 _)))) vn ln n (unhide VN) (unhide LN) (unhide hn) hvx hlx mr).mono ?_
             rw [unhide hqr]
             rintro e W2 ⟨rfl, b2⟩
             have B2 := hide (Below.trans (unhide (by assumption : Hid (Below w7.heap.size w7 _))) (b2.mono (Below.size (unhide (by assumption : Hid (Below w7.heap.size w7 _))))))
             clear b2)
          | (go_at_call_of 25 (Value.slice sp7 n7 k7)
             refine (quorum_calls ((unhide V7).later (unhide (by assumption : Hid (Below w7.heap.size w7 _)))) ((unhide L7).later (unhide (by assumption : Hid (Below w7.heap.size w7 _)))) ((unhide Y7).later (unhide (by assumption : Hid (Below w7.heap.size w7 _)))) vn ln n7 (unhide VN) (unhide LN) (unhide N7) hvx hlx m7).mono ?_
             rw [unhide QA]
             rintro e W2 ⟨rfl, b2⟩
             have B2 := hide (Below.trans (unhide (by assumption : Hid (Below w7.heap.size w7 _))) (b2.mono (Below.size (unhide (by assumption : Hid (Below w7.heap.size w7 _))))))
             clear b2)
          | (go_at_call_of 25 (Value.slice none 0 0)
             refine (quorum_calls ((unhide V7).later (unhide (by assumption : Hid (Below w7.heap.size w7 _)))) ((unhide L7).later (unhide (by assumption : Hid (Below w7.heap.size w7 _)))) (ints_nil _ _) vn ln 0 (unhide VN) (unhide LN) rfl hvx hlx (by simp [maxLen])).mono ?_
             rw [unhide QN]
             rintro e W2 ⟨rfl, b2⟩
             have B2 := hide (Below.trans (unhide (by assumption : Hid (Below w7.heap.size w7 _))) (b2.mono (Below.size (unhide (by assumption : Hid (Below w7.heap.size w7 _))))))
             clear b2)
        go_wp2_with fail
        refine hK.out _ _ ?_ (fun hHeld => ?_)
        · try dsimp only
          exact ⟨cell_later (unhide (by assumption : Hid (Below w7.heap.size w7 _))) d0, cell_later (unhide (by assumption : Hid (Below w7.heap.size w7 _))) d1⟩
        clear hK K
        try simp only [Act.put, List.setIfInBounds_toArray, List.set_cons_zero, List.set_cons_succ]
        refine held_take 5 (oi := { dst := some 30, op := Op.move (Operand.tmp 29), type := 4, pos := "law.go:77", after := #[{ on := 4, ground := Ground.data }, { on := 4, ground := Ground.chain }, { on := 1, ground := Ground.guard }], guard := some (1, true) }) (v := ?_) (by kernel_rfl) rfl (by rfl) (by kernel_rfl) (by kernel_rfl) (fun _ _ _ h => h) ?_ (by assumption) ?_
        rotate_left
        · (intro w hSw; (try dsimp only at hSw); go_simp; try with_reducible rfl)
        try simp only [Act.put, List.setIfInBounds_toArray, List.set_cons_zero, List.set_cons_succ]
        refine held_take 6 (oi := { dst := some 31, op := Op.load 24 (Operand.tmp 2), type := 24, pos := "law.go:77", after := #[{ on := 5, ground := Ground.guard }], guard := some (5, true) }) (v := ?_) (by kernel_rfl) rfl (by rfl) (by kernel_rfl) (by kernel_rfl) (fun _ _ _ h => h) ?_ (by assumption) ?_
        rotate_left
        · (intro w hSw; (try dsimp only at hSw); go_simp; try with_reducible rfl)
        try simp only [Act.put, List.setIfInBounds_toArray, List.set_cons_zero, List.set_cons_succ]
        refine held_take 7 (oi := { dst := some 32, op := Op.move (Operand.tmp 5), type := 22, pos := "law.go:77", after := #[{ on := 5, ground := Ground.guard }], guard := some (5, true) }) (v := ?_) (by kernel_rfl) rfl (by rfl) (by kernel_rfl) (by kernel_rfl) (fun _ _ _ h => h) ?_ (by assumption) ?_
        rotate_left
        · (intro w hSw; (try dsimp only at hSw); go_simp; try with_reducible rfl)
        try simp only [Act.put, List.setIfInBounds_toArray, List.set_cons_zero, List.set_cons_succ]
        refine held_one 8 (oi := { dst := some 33, op := Op.call { callee := Callee.value (Operand.func 25), args := #[Operand.tmp 31, Operand.tmp 32], argTypes := #[24, 22] }, type := 4, pos := "law.go:77", after := #[{ on := 6, ground := Ground.data }, { on := 7, ground := Ground.data }, { on := 5, ground := Ground.chain }, { on := 5, ground := Ground.guard }], guard := some (5, true) }) (by kernel_rfl) rfl (fun K hK => ?_)
        go_simp
        first
          | (go_at_call 16
             refine (live3_calls _).mono ?_
             rintro e W2 ⟨rfl, b2⟩
             have B2 := hide (Below.trans (unhide (by assumption : Hid (Below w7.heap.size w7 _))) (b2.mono (Below.size (unhide (by assumption : Hid (Below w7.heap.size w7 _))))))
             clear b2)
          | (go_at_call 17
             refine (right_calls ((unhide V7).later (unhide (by assumption : Hid (Below w7.heap.size w7 _)))) ((unhide L7).later (unhide (by assumption : Hid (Below w7.heap.size w7 _)))) vn ln (unhide VN) (unhide LN) hvx hlx).mono ?_
             rw [hqa]
             rintro e W2 ⟨rfl, b2⟩
             have B2 := hide (Below.trans (unhide (by assumption : Hid (Below w7.heap.size w7 _))) (b2.mono (Below.size (unhide (by assumption : Hid (Below w7.heap.size w7 _))))))
             clear b2)
          | (go_at_call_of 25 (Value.slice a1 n1 c1)
             refine (quorum_calls ((unhide V7).later (unhide (by assumption : Hid (Below w7.heap.size w7 _)))) ((unhide L7).later (unhide (by assumption : Hid (Below w7.heap.size w7 _)))) ((unhide Q7).later (unhide (by assumption : Hid (Below w7.heap.size w7 _)))) vn ln n1 (unhide VN) (unhide LN) (unhide N1) hvx hlx m1).mono ?_
             rw [hqy]
             rintro e W2 ⟨rfl, b2⟩
             have B2 := hide (Below.trans (unhide (by assumption : Hid (Below w7.heap.size w7 _))) (b2.mono (Below.size (unhide (by assumption : Hid (Below w7.heap.size w7 _))))))
             clear b2)
          | (go_at_call_of 25 (Value.slice sp n c)
             refine (quorum_calls ((unhide V7).later (unhide (by assumption : Hid (Below w7.heap.size w7 _)))) ((unhide L7).later (unhide (by assumption : Hid (Below w7.heap.size w7 _)))) ((unhide R7).later (unhide (by assumption : Hid (Below w7.heap.size w7 _)))) vn ln n (unhide VN) (unhide LN) (unhide hn) hvx hlx mr).mono ?_
             rw [unhide hqr]
             rintro e W2 ⟨rfl, b2⟩
             have B2 := hide (Below.trans (unhide (by assumption : Hid (Below w7.heap.size w7 _))) (b2.mono (Below.size (unhide (by assumption : Hid (Below w7.heap.size w7 _))))))
             clear b2)
          | (go_at_call_of 25 (Value.slice sp7 n7 k7)
             refine (quorum_calls ((unhide V7).later (unhide (by assumption : Hid (Below w7.heap.size w7 _)))) ((unhide L7).later (unhide (by assumption : Hid (Below w7.heap.size w7 _)))) ((unhide Y7).later (unhide (by assumption : Hid (Below w7.heap.size w7 _)))) vn ln n7 (unhide VN) (unhide LN) (unhide N7) hvx hlx m7).mono ?_
             rw [unhide QA]
             rintro e W2 ⟨rfl, b2⟩
             have B2 := hide (Below.trans (unhide (by assumption : Hid (Below w7.heap.size w7 _))) (b2.mono (Below.size (unhide (by assumption : Hid (Below w7.heap.size w7 _))))))
             clear b2)
          | (go_at_call_of 25 (Value.slice none 0 0)
             refine (quorum_calls ((unhide V7).later (unhide (by assumption : Hid (Below w7.heap.size w7 _)))) ((unhide L7).later (unhide (by assumption : Hid (Below w7.heap.size w7 _)))) (ints_nil _ _) vn ln 0 (unhide VN) (unhide LN) rfl hvx hlx (by simp [maxLen])).mono ?_
             rw [unhide QN]
             rintro e W2 ⟨rfl, b2⟩
             have B2 := hide (Below.trans (unhide (by assumption : Hid (Below w7.heap.size w7 _))) (b2.mono (Below.size (unhide (by assumption : Hid (Below w7.heap.size w7 _))))))
             clear b2)
        go_wp2_with fail
        refine hK.out _ _ ?_ (fun hHeld => ?_)
        · try dsimp only
          exact ⟨cell_later (unhide (by assumption : Hid (Below w7.heap.size w7 _))) d0, cell_later (unhide (by assumption : Hid (Below w7.heap.size w7 _))) d1⟩
        clear hK K
        try simp only [Act.put, List.setIfInBounds_toArray, List.set_cons_zero, List.set_cons_succ]
        refine held_take 9 (oi := { dst := some 34, op := Op.pick (Operand.tmp 30) (Operand.tmp 33) (Operand.const (Value.bool false)), type := 4, pos := "law.go:77", after := #[{ on := 5, ground := Ground.data }, { on := 8, ground := Ground.data }, { on := 1, ground := Ground.guard }], guard := some (1, true) }) (v := ?_) (by kernel_rfl) rfl (by rfl) (by kernel_rfl) (by kernel_rfl) (fun _ _ _ h => h) ?_ (by assumption) ?_
        rotate_left
        · (intro w hSw; (try dsimp only at hSw); go_simp; try with_reducible rfl)
        try simp only [Act.put, List.setIfInBounds_toArray, List.set_cons_zero, List.set_cons_succ]
        refine held_take 10 (oi := { dst := some 35, op := Op.unOp UnOp.not 4 (Operand.tmp 34), type := 4, pos := "law.go:77", after := #[{ on := 9, ground := Ground.data }, { on := 1, ground := Ground.guard }], guard := some (1, true) }) (v := ?_) (by kernel_rfl) rfl (by rfl) (by kernel_rfl) (by kernel_rfl) (fun _ _ _ h => h) ?_ (by assumption) ?_
        rotate_left
        · (intro w hSw; (try dsimp only at hSw); go_simp; try with_reducible rfl)
        try simp only [Act.put, List.setIfInBounds_toArray, List.set_cons_zero, List.set_cons_succ]
        refine held_take 11 (oi := { dst := some 36, op := Op.pick (Operand.tmp 26) (Operand.tmp 35) (Operand.const (Value.bool false)), type := 4, pos := "law.go:77", after := #[{ on := 1, ground := Ground.data }, { on := 10, ground := Ground.data }], guard := none }) (v := ?_) (by kernel_rfl) rfl (by rfl) (by kernel_rfl) (by kernel_rfl) (fun _ _ _ h => h) ?_ (by assumption) ?_
        rotate_left
        · (intro w hSw; (try dsimp only at hSw); go_simp; try with_reducible rfl)
        try simp only [Act.put, List.setIfInBounds_toArray, List.set_cons_zero, List.set_cons_succ]
        refine held_take 12 (oi := { dst := some 37, op := Op.move (Operand.tmp 36), type := 4, pos := "law.go:77", after := #[{ on := 11, ground := Ground.data }, { on := 8, ground := Ground.chain }], guard := none }) (v := ?_) (by kernel_rfl) rfl (by rfl) (by kernel_rfl) (by kernel_rfl) (fun _ _ _ h => h) ?_ (by assumption) ?_
        rotate_left
        · (intro w hSw; (try dsimp only at hSw); go_simp; try with_reducible rfl)
        try simp only [Act.put, List.setIfInBounds_toArray, List.set_cons_zero, List.set_cons_succ]
        refine held_take 13 (oi := { dst := some 38, op := Op.load 24 (Operand.tmp 2), type := 24, pos := "law.go:77", after := #[{ on := 12, ground := Ground.guard }], guard := some (12, true) }) (v := ?_) (by kernel_rfl) rfl (by rfl) (by kernel_rfl) (by kernel_rfl) (fun _ _ _ h => h) ?_ (by assumption) ?_
        rotate_left
        · (intro w hSw; (try dsimp only at hSw); go_simp; try with_reducible rfl)
        try simp only [Act.put, List.setIfInBounds_toArray, List.set_cons_zero, List.set_cons_succ]
        refine held_take 14 (oi := { dst := some 39, op := Op.move (Operand.tmp 7), type := 22, pos := "law.go:77", after := #[{ on := 12, ground := Ground.guard }], guard := some (12, true) }) (v := ?_) (by kernel_rfl) rfl (by rfl) (by kernel_rfl) (by kernel_rfl) (fun _ _ _ h => h) ?_ (by assumption) ?_
        rotate_left
        · (intro w hSw; (try dsimp only at hSw); go_simp; try with_reducible rfl)
        try simp only [Act.put, List.setIfInBounds_toArray, List.set_cons_zero, List.set_cons_succ]
        refine held_take 16 (oi := { dst := some 41, op := Op.load 24 (Operand.tmp 2), type := 24, pos := "law.go:77", after := #[{ on := 12, ground := Ground.guard }], guard := some (12, true) }) (v := ?_) (by kernel_rfl) rfl (by rfl) (by kernel_rfl) (by kernel_rfl) (fun _ _ _ h => h) ?_ (by assumption) ?_
        rotate_left
        · (intro w hSw; (try dsimp only at hSw); go_simp; try with_reducible rfl)
        try simp only [Act.put, List.setIfInBounds_toArray, List.set_cons_zero, List.set_cons_succ]
        refine held_one 15 (oi := { dst := some 40, op := Op.call { callee := Callee.value (Operand.func 25), args := #[Operand.tmp 38, Operand.tmp 39], argTypes := #[24, 22] }, type := 4, pos := "law.go:77", after := #[{ on := 13, ground := Ground.data }, { on := 14, ground := Ground.data }, { on := 12, ground := Ground.chain }, { on := 12, ground := Ground.guard }], guard := some (12, true) }) (by kernel_rfl) rfl (fun K hK => ?_)
        go_simp
        first
          | (go_at_call 16
             refine (live3_calls _).mono ?_
             rintro e W2 ⟨rfl, b2⟩
             have B2 := hide (Below.trans (unhide (by assumption : Hid (Below w7.heap.size w7 _))) (b2.mono (Below.size (unhide (by assumption : Hid (Below w7.heap.size w7 _))))))
             clear b2)
          | (go_at_call 17
             refine (right_calls ((unhide V7).later (unhide (by assumption : Hid (Below w7.heap.size w7 _)))) ((unhide L7).later (unhide (by assumption : Hid (Below w7.heap.size w7 _)))) vn ln (unhide VN) (unhide LN) hvx hlx).mono ?_
             rw [hqa]
             rintro e W2 ⟨rfl, b2⟩
             have B2 := hide (Below.trans (unhide (by assumption : Hid (Below w7.heap.size w7 _))) (b2.mono (Below.size (unhide (by assumption : Hid (Below w7.heap.size w7 _))))))
             clear b2)
          | (go_at_call_of 25 (Value.slice a1 n1 c1)
             refine (quorum_calls ((unhide V7).later (unhide (by assumption : Hid (Below w7.heap.size w7 _)))) ((unhide L7).later (unhide (by assumption : Hid (Below w7.heap.size w7 _)))) ((unhide Q7).later (unhide (by assumption : Hid (Below w7.heap.size w7 _)))) vn ln n1 (unhide VN) (unhide LN) (unhide N1) hvx hlx m1).mono ?_
             rw [hqy]
             rintro e W2 ⟨rfl, b2⟩
             have B2 := hide (Below.trans (unhide (by assumption : Hid (Below w7.heap.size w7 _))) (b2.mono (Below.size (unhide (by assumption : Hid (Below w7.heap.size w7 _))))))
             clear b2)
          | (go_at_call_of 25 (Value.slice sp n c)
             refine (quorum_calls ((unhide V7).later (unhide (by assumption : Hid (Below w7.heap.size w7 _)))) ((unhide L7).later (unhide (by assumption : Hid (Below w7.heap.size w7 _)))) ((unhide R7).later (unhide (by assumption : Hid (Below w7.heap.size w7 _)))) vn ln n (unhide VN) (unhide LN) (unhide hn) hvx hlx mr).mono ?_
             rw [unhide hqr]
             rintro e W2 ⟨rfl, b2⟩
             have B2 := hide (Below.trans (unhide (by assumption : Hid (Below w7.heap.size w7 _))) (b2.mono (Below.size (unhide (by assumption : Hid (Below w7.heap.size w7 _))))))
             clear b2)
          | (go_at_call_of 25 (Value.slice sp7 n7 k7)
             refine (quorum_calls ((unhide V7).later (unhide (by assumption : Hid (Below w7.heap.size w7 _)))) ((unhide L7).later (unhide (by assumption : Hid (Below w7.heap.size w7 _)))) ((unhide Y7).later (unhide (by assumption : Hid (Below w7.heap.size w7 _)))) vn ln n7 (unhide VN) (unhide LN) (unhide N7) hvx hlx m7).mono ?_
             rw [unhide QA]
             rintro e W2 ⟨rfl, b2⟩
             have B2 := hide (Below.trans (unhide (by assumption : Hid (Below w7.heap.size w7 _))) (b2.mono (Below.size (unhide (by assumption : Hid (Below w7.heap.size w7 _))))))
             clear b2)
          | (go_at_call_of 25 (Value.slice none 0 0)
             refine (quorum_calls ((unhide V7).later (unhide (by assumption : Hid (Below w7.heap.size w7 _)))) ((unhide L7).later (unhide (by assumption : Hid (Below w7.heap.size w7 _)))) (ints_nil _ _) vn ln 0 (unhide VN) (unhide LN) rfl hvx hlx (by simp [maxLen])).mono ?_
             rw [unhide QN]
             rintro e W2 ⟨rfl, b2⟩
             have B2 := hide (Below.trans (unhide (by assumption : Hid (Below w7.heap.size w7 _))) (b2.mono (Below.size (unhide (by assumption : Hid (Below w7.heap.size w7 _))))))
             clear b2)
        go_wp2_with fail
        refine hK.out _ _ ?_ (fun hHeld => ?_)
        · try dsimp only
          exact ⟨cell_later (unhide (by assumption : Hid (Below w7.heap.size w7 _))) d0, cell_later (unhide (by assumption : Hid (Below w7.heap.size w7 _))) d1⟩
        clear hK K
        try simp only [Act.put, List.setIfInBounds_toArray, List.set_cons_zero, List.set_cons_succ]
        refine held_one 17 (oi := { dst := some 42, op := Op.call { callee := Callee.value (Operand.func 17), args := #[Operand.tmp 41], argTypes := #[24] }, type := 4, pos := "law.go:77", after := #[{ on := 16, ground := Ground.data }, { on := 15, ground := Ground.chain }, { on := 12, ground := Ground.guard }], guard := some (12, true) }) (by kernel_rfl) rfl (fun K hK => ?_)
        go_simp
        first
          | (go_at_call 16
             refine (live3_calls _).mono ?_
             rintro e W2 ⟨rfl, b2⟩
             have B2 := hide (Below.trans (unhide (by assumption : Hid (Below w7.heap.size w7 _))) (b2.mono (Below.size (unhide (by assumption : Hid (Below w7.heap.size w7 _))))))
             clear b2)
          | (go_at_call 17
             refine (right_calls ((unhide V7).later (unhide (by assumption : Hid (Below w7.heap.size w7 _)))) ((unhide L7).later (unhide (by assumption : Hid (Below w7.heap.size w7 _)))) vn ln (unhide VN) (unhide LN) hvx hlx).mono ?_
             rw [hqa]
             rintro e W2 ⟨rfl, b2⟩
             have B2 := hide (Below.trans (unhide (by assumption : Hid (Below w7.heap.size w7 _))) (b2.mono (Below.size (unhide (by assumption : Hid (Below w7.heap.size w7 _))))))
             clear b2)
          | (go_at_call_of 25 (Value.slice a1 n1 c1)
             refine (quorum_calls ((unhide V7).later (unhide (by assumption : Hid (Below w7.heap.size w7 _)))) ((unhide L7).later (unhide (by assumption : Hid (Below w7.heap.size w7 _)))) ((unhide Q7).later (unhide (by assumption : Hid (Below w7.heap.size w7 _)))) vn ln n1 (unhide VN) (unhide LN) (unhide N1) hvx hlx m1).mono ?_
             rw [hqy]
             rintro e W2 ⟨rfl, b2⟩
             have B2 := hide (Below.trans (unhide (by assumption : Hid (Below w7.heap.size w7 _))) (b2.mono (Below.size (unhide (by assumption : Hid (Below w7.heap.size w7 _))))))
             clear b2)
          | (go_at_call_of 25 (Value.slice sp n c)
             refine (quorum_calls ((unhide V7).later (unhide (by assumption : Hid (Below w7.heap.size w7 _)))) ((unhide L7).later (unhide (by assumption : Hid (Below w7.heap.size w7 _)))) ((unhide R7).later (unhide (by assumption : Hid (Below w7.heap.size w7 _)))) vn ln n (unhide VN) (unhide LN) (unhide hn) hvx hlx mr).mono ?_
             rw [unhide hqr]
             rintro e W2 ⟨rfl, b2⟩
             have B2 := hide (Below.trans (unhide (by assumption : Hid (Below w7.heap.size w7 _))) (b2.mono (Below.size (unhide (by assumption : Hid (Below w7.heap.size w7 _))))))
             clear b2)
          | (go_at_call_of 25 (Value.slice sp7 n7 k7)
             refine (quorum_calls ((unhide V7).later (unhide (by assumption : Hid (Below w7.heap.size w7 _)))) ((unhide L7).later (unhide (by assumption : Hid (Below w7.heap.size w7 _)))) ((unhide Y7).later (unhide (by assumption : Hid (Below w7.heap.size w7 _)))) vn ln n7 (unhide VN) (unhide LN) (unhide N7) hvx hlx m7).mono ?_
             rw [unhide QA]
             rintro e W2 ⟨rfl, b2⟩
             have B2 := hide (Below.trans (unhide (by assumption : Hid (Below w7.heap.size w7 _))) (b2.mono (Below.size (unhide (by assumption : Hid (Below w7.heap.size w7 _))))))
             clear b2)
          | (go_at_call_of 25 (Value.slice none 0 0)
             refine (quorum_calls ((unhide V7).later (unhide (by assumption : Hid (Below w7.heap.size w7 _)))) ((unhide L7).later (unhide (by assumption : Hid (Below w7.heap.size w7 _)))) (ints_nil _ _) vn ln 0 (unhide VN) (unhide LN) rfl hvx hlx (by simp [maxLen])).mono ?_
             rw [unhide QN]
             rintro e W2 ⟨rfl, b2⟩
             have B2 := hide (Below.trans (unhide (by assumption : Hid (Below w7.heap.size w7 _))) (b2.mono (Below.size (unhide (by assumption : Hid (Below w7.heap.size w7 _))))))
             clear b2)
        go_wp2_with fail
        refine hK.out _ _ ?_ (fun hHeld => ?_)
        · try dsimp only
          exact ⟨cell_later (unhide (by assumption : Hid (Below w7.heap.size w7 _))) d0, cell_later (unhide (by assumption : Hid (Below w7.heap.size w7 _))) d1⟩
        clear hK K
        try simp only [Act.put, List.setIfInBounds_toArray, List.set_cons_zero, List.set_cons_succ]
        refine held_take 18 (oi := { dst := some 43, op := Op.binOp BinOp.eql 4 (Operand.tmp 40) (Operand.tmp 42) 4, type := 4, pos := "law.go:77", after := #[{ on := 15, ground := Ground.data }, { on := 17, ground := Ground.data }, { on := 12, ground := Ground.guard }], guard := some (12, true) }) (v := ?_) (by kernel_rfl) rfl (by rfl) (by kernel_rfl) (by kernel_rfl) (fun _ _ _ h => h) ?_ (by assumption) ?_
        rotate_left
        · (intro w hSw; (try dsimp only at hSw); go_simp; try with_reducible rfl)
        try simp only [Act.put, List.setIfInBounds_toArray, List.set_cons_zero, List.set_cons_succ]
        refine held_take 19 (oi := { dst := some 44, op := Op.pick (Operand.tmp 37) (Operand.tmp 43) (Operand.const (Value.bool false)), type := 4, pos := "law.go:77", after := #[{ on := 12, ground := Ground.data }, { on := 18, ground := Ground.data }], guard := none }) (v := ?_) (by kernel_rfl) rfl (by rfl) (by kernel_rfl) (by kernel_rfl) (fun _ _ _ h => h) ?_ (by assumption) ?_
        rotate_left
        · (intro w hSw; (try dsimp only at hSw); go_simp; try with_reducible rfl)
        try simp only [Act.put, List.setIfInBounds_toArray, List.set_cons_zero, List.set_cons_succ]
        refine held_take 20 (oi := { dst := some 45, op := Op.move (Operand.tmp 44), type := 4, pos := "law.go:77", after := #[{ on := 19, ground := Ground.data }, { on := 17, ground := Ground.chain }], guard := none }) (v := ?_) (by kernel_rfl) rfl (by rfl) (by kernel_rfl) (by kernel_rfl) (fun _ _ _ h => h) ?_ (by assumption) ?_
        rotate_left
        · (intro w hSw; (try dsimp only at hSw); go_simp; try with_reducible rfl)
        try simp only [Act.put, List.setIfInBounds_toArray, List.set_cons_zero, List.set_cons_succ]
        refine held_take 21 (oi := { dst := some 46, op := Op.load 24 (Operand.tmp 2), type := 24, pos := "law.go:77", after := #[{ on := 20, ground := Ground.guard }], guard := some (20, true) }) (v := ?_) (by kernel_rfl) rfl (by rfl) (by kernel_rfl) (by kernel_rfl) (fun _ _ _ h => h) ?_ (by assumption) ?_
        rotate_left
        · (intro w hSw; (try dsimp only at hSw); go_simp; try with_reducible rfl)
        try simp only [Act.put, List.setIfInBounds_toArray, List.set_cons_zero, List.set_cons_succ]
        refine held_one 22 (oi := { dst := some 47, op := Op.call { callee := Callee.value (Operand.func 25), args := #[Operand.tmp 46, Operand.const (Value.slice none 0 0)], argTypes := #[24, 22] }, type := 4, pos := "law.go:77", after := #[{ on := 21, ground := Ground.data }, { on := 20, ground := Ground.chain }, { on := 20, ground := Ground.guard }], guard := some (20, true) }) (by kernel_rfl) rfl (fun K hK => ?_)
        go_simp
        first
          | (go_at_call 16
             refine (live3_calls _).mono ?_
             rintro e W2 ⟨rfl, b2⟩
             have B2 := hide (Below.trans (unhide (by assumption : Hid (Below w7.heap.size w7 _))) (b2.mono (Below.size (unhide (by assumption : Hid (Below w7.heap.size w7 _))))))
             clear b2)
          | (go_at_call 17
             refine (right_calls ((unhide V7).later (unhide (by assumption : Hid (Below w7.heap.size w7 _)))) ((unhide L7).later (unhide (by assumption : Hid (Below w7.heap.size w7 _)))) vn ln (unhide VN) (unhide LN) hvx hlx).mono ?_
             rw [hqa]
             rintro e W2 ⟨rfl, b2⟩
             have B2 := hide (Below.trans (unhide (by assumption : Hid (Below w7.heap.size w7 _))) (b2.mono (Below.size (unhide (by assumption : Hid (Below w7.heap.size w7 _))))))
             clear b2)
          | (go_at_call_of 25 (Value.slice a1 n1 c1)
             refine (quorum_calls ((unhide V7).later (unhide (by assumption : Hid (Below w7.heap.size w7 _)))) ((unhide L7).later (unhide (by assumption : Hid (Below w7.heap.size w7 _)))) ((unhide Q7).later (unhide (by assumption : Hid (Below w7.heap.size w7 _)))) vn ln n1 (unhide VN) (unhide LN) (unhide N1) hvx hlx m1).mono ?_
             rw [hqy]
             rintro e W2 ⟨rfl, b2⟩
             have B2 := hide (Below.trans (unhide (by assumption : Hid (Below w7.heap.size w7 _))) (b2.mono (Below.size (unhide (by assumption : Hid (Below w7.heap.size w7 _))))))
             clear b2)
          | (go_at_call_of 25 (Value.slice sp n c)
             refine (quorum_calls ((unhide V7).later (unhide (by assumption : Hid (Below w7.heap.size w7 _)))) ((unhide L7).later (unhide (by assumption : Hid (Below w7.heap.size w7 _)))) ((unhide R7).later (unhide (by assumption : Hid (Below w7.heap.size w7 _)))) vn ln n (unhide VN) (unhide LN) (unhide hn) hvx hlx mr).mono ?_
             rw [unhide hqr]
             rintro e W2 ⟨rfl, b2⟩
             have B2 := hide (Below.trans (unhide (by assumption : Hid (Below w7.heap.size w7 _))) (b2.mono (Below.size (unhide (by assumption : Hid (Below w7.heap.size w7 _))))))
             clear b2)
          | (go_at_call_of 25 (Value.slice sp7 n7 k7)
             refine (quorum_calls ((unhide V7).later (unhide (by assumption : Hid (Below w7.heap.size w7 _)))) ((unhide L7).later (unhide (by assumption : Hid (Below w7.heap.size w7 _)))) ((unhide Y7).later (unhide (by assumption : Hid (Below w7.heap.size w7 _)))) vn ln n7 (unhide VN) (unhide LN) (unhide N7) hvx hlx m7).mono ?_
             rw [unhide QA]
             rintro e W2 ⟨rfl, b2⟩
             have B2 := hide (Below.trans (unhide (by assumption : Hid (Below w7.heap.size w7 _))) (b2.mono (Below.size (unhide (by assumption : Hid (Below w7.heap.size w7 _))))))
             clear b2)
          | (go_at_call_of 25 (Value.slice none 0 0)
             refine (quorum_calls ((unhide V7).later (unhide (by assumption : Hid (Below w7.heap.size w7 _)))) ((unhide L7).later (unhide (by assumption : Hid (Below w7.heap.size w7 _)))) (ints_nil _ _) vn ln 0 (unhide VN) (unhide LN) rfl hvx hlx (by simp [maxLen])).mono ?_
             rw [unhide QN]
             rintro e W2 ⟨rfl, b2⟩
             have B2 := hide (Below.trans (unhide (by assumption : Hid (Below w7.heap.size w7 _))) (b2.mono (Below.size (unhide (by assumption : Hid (Below w7.heap.size w7 _))))))
             clear b2)
        go_wp2_with fail
        refine hK.out _ _ ?_ (fun hHeld => ?_)
        · try dsimp only
          exact ⟨cell_later (unhide (by assumption : Hid (Below w7.heap.size w7 _))) d0, cell_later (unhide (by assumption : Hid (Below w7.heap.size w7 _))) d1⟩
        clear hK K
        try simp only [Act.put, List.setIfInBounds_toArray, List.set_cons_zero, List.set_cons_succ]
        refine held_take 23 (oi := { dst := some 48, op := Op.unOp UnOp.not 4 (Operand.tmp 47), type := 4, pos := "law.go:77", after := #[{ on := 22, ground := Ground.data }, { on := 20, ground := Ground.guard }], guard := some (20, true) }) (v := ?_) (by kernel_rfl) rfl (by rfl) (by kernel_rfl) (by kernel_rfl) (fun _ _ _ h => h) ?_ (by assumption) ?_
        rotate_left
        · (intro w hSw; (try dsimp only at hSw); go_simp; try with_reducible rfl)
        try simp only [Act.put, List.setIfInBounds_toArray, List.set_cons_zero, List.set_cons_succ]
        refine held_take 24 (oi := { dst := some 49, op := Op.pick (Operand.tmp 45) (Operand.tmp 48) (Operand.const (Value.bool false)), type := 4, pos := "law.go:77", after := #[{ on := 20, ground := Ground.data }, { on := 23, ground := Ground.data }], guard := none }) (v := ?_) (by kernel_rfl) rfl (by rfl) (by kernel_rfl) (by kernel_rfl) (fun _ _ _ h => h) ?_ (by assumption) ?_
        rotate_left
        · (intro w hSw; (try dsimp only at hSw); go_simp; try with_reducible rfl)
        try simp only [Act.put, List.setIfInBounds_toArray, List.set_cons_zero, List.set_cons_succ]
        refine held_take 25 (oi := { dst := some 4, op := Op.assign (Operand.tmp 49), type := 4, pos := "law.go:77", after := #[{ on := 24, ground := Ground.data }, { on := 22, ground := Ground.chain }, { on := 0, ground := Ground.phase }, { on := 1, ground := Ground.phase }, { on := 2, ground := Ground.phase }, { on := 3, ground := Ground.phase }, { on := 4, ground := Ground.phase }, { on := 5, ground := Ground.phase }, { on := 6, ground := Ground.phase }, { on := 7, ground := Ground.phase }, { on := 8, ground := Ground.phase }, { on := 9, ground := Ground.phase }, { on := 10, ground := Ground.phase }, { on := 11, ground := Ground.phase }, { on := 12, ground := Ground.phase }, { on := 13, ground := Ground.phase }, { on := 14, ground := Ground.phase }, { on := 15, ground := Ground.phase }, { on := 16, ground := Ground.phase }, { on := 17, ground := Ground.phase }, { on := 18, ground := Ground.phase }, { on := 19, ground := Ground.phase }, { on := 20, ground := Ground.phase }, { on := 21, ground := Ground.phase }, { on := 22, ground := Ground.phase }, { on := 23, ground := Ground.phase }, { on := 24, ground := Ground.phase }], guard := none }) (v := ?_) (by kernel_rfl) rfl (by rfl) (by kernel_rfl) (by kernel_rfl) (fun _ _ _ h => h) ?_ (by assumption) ?_
        rotate_left
        · (intro w hSw; (try dsimp only at hSw); go_simp; try with_reducible rfl)
        try simp only [Act.put, List.setIfInBounds_toArray, List.set_cons_zero, List.set_cons_succ]
        refine wpAnyH_done (by kernel_rfl) ?_ _
        go_wp2
        go_ret
        exact ⟨rfl, by first | exact (unhide b1).trans ((Below.trans (unhide A7) ((unhide (by assumption : Hid (Below w7.heap.size w7 _))).mono (by have := (unhide A7).size; have := unhide ZE; omega))).mono (by have := (unhide b1).size; omega)) | (rw [hD]; exact (unhide b1).trans ((Below.trans (unhide A7) ((unhide (by assumption : Hid (Below w7.heap.size w7 _))).mono (by have := (unhide A7).size; have := unhide ZE; omega))).mono (by have := (unhide b1).size; omega)))⟩
      all_goals
        rw [hqa] at QA
        refine wp_region_held_drew (S := fun w' => w'.cell? ⟨D, 0, none⟩ = some (.slice va0 vn vc0) ∧ w'.cell? ⟨D, 1, none⟩ = some (.slice la0 ln lc0)) (by kernel_rfl) ?_ (fun hHeld => ?_)
        · try dsimp only
          exact ⟨cell_later (unhide (by assumption : Hid (Below w7.heap.size w7 _))) d0, cell_later (unhide (by assumption : Hid (Below w7.heap.size w7 _))) d1⟩
        refine held_one 0 (oi := { dst := some 25, op := Op.call { callee := Callee.value (Operand.func 16), args := #[], argTypes := #[] }, type := 4, pos := "law.go:77", after := #[], guard := none }) (by kernel_rfl) rfl (fun K hK => ?_)
        go_simp
        first
          | (go_at_call 16
             refine (live3_calls _).mono ?_
             rintro e W2 ⟨rfl, b2⟩
             have B2 := hide (Below.trans (unhide (by assumption : Hid (Below w7.heap.size w7 _))) (b2.mono (Below.size (unhide (by assumption : Hid (Below w7.heap.size w7 _))))))
             clear b2)
          | (go_at_call 17
             refine (right_calls ((unhide V7).later (unhide (by assumption : Hid (Below w7.heap.size w7 _)))) ((unhide L7).later (unhide (by assumption : Hid (Below w7.heap.size w7 _)))) vn ln (unhide VN) (unhide LN) hvx hlx).mono ?_
             rw [hqa]
             rintro e W2 ⟨rfl, b2⟩
             have B2 := hide (Below.trans (unhide (by assumption : Hid (Below w7.heap.size w7 _))) (b2.mono (Below.size (unhide (by assumption : Hid (Below w7.heap.size w7 _))))))
             clear b2)
          | (go_at_call_of 25 (Value.slice a1 n1 c1)
             refine (quorum_calls ((unhide V7).later (unhide (by assumption : Hid (Below w7.heap.size w7 _)))) ((unhide L7).later (unhide (by assumption : Hid (Below w7.heap.size w7 _)))) ((unhide Q7).later (unhide (by assumption : Hid (Below w7.heap.size w7 _)))) vn ln n1 (unhide VN) (unhide LN) (unhide N1) hvx hlx m1).mono ?_
             rw [hqy]
             rintro e W2 ⟨rfl, b2⟩
             have B2 := hide (Below.trans (unhide (by assumption : Hid (Below w7.heap.size w7 _))) (b2.mono (Below.size (unhide (by assumption : Hid (Below w7.heap.size w7 _))))))
             clear b2)
          | (go_at_call_of 25 (Value.slice sp7 n7 k7)
             refine (quorum_calls ((unhide V7).later (unhide (by assumption : Hid (Below w7.heap.size w7 _)))) ((unhide L7).later (unhide (by assumption : Hid (Below w7.heap.size w7 _)))) ((unhide Y7).later (unhide (by assumption : Hid (Below w7.heap.size w7 _)))) vn ln n7 (unhide VN) (unhide LN) (unhide N7) hvx hlx m7).mono ?_
             rw [unhide QA]
             rintro e W2 ⟨rfl, b2⟩
             have B2 := hide (Below.trans (unhide (by assumption : Hid (Below w7.heap.size w7 _))) (b2.mono (Below.size (unhide (by assumption : Hid (Below w7.heap.size w7 _))))))
             clear b2)
          | (go_at_call_of 25 (Value.slice none 0 0)
             refine (quorum_calls ((unhide V7).later (unhide (by assumption : Hid (Below w7.heap.size w7 _)))) ((unhide L7).later (unhide (by assumption : Hid (Below w7.heap.size w7 _)))) (ints_nil _ _) vn ln 0 (unhide VN) (unhide LN) rfl hvx hlx (by simp [maxLen])).mono ?_
             rw [unhide QN]
             rintro e W2 ⟨rfl, b2⟩
             have B2 := hide (Below.trans (unhide (by assumption : Hid (Below w7.heap.size w7 _))) (b2.mono (Below.size (unhide (by assumption : Hid (Below w7.heap.size w7 _))))))
             clear b2)
        go_wp2_with fail
        refine hK.out _ _ ?_ (fun hHeld => ?_)
        · try dsimp only
          exact ⟨cell_later (unhide (by assumption : Hid (Below w7.heap.size w7 _))) d0, cell_later (unhide (by assumption : Hid (Below w7.heap.size w7 _))) d1⟩
        clear hK K
        try simp only [Act.put, List.setIfInBounds_toArray, List.set_cons_zero, List.set_cons_succ]
        refine held_take 1 (oi := { dst := some 26, op := Op.move (Operand.tmp 25), type := 4, pos := "law.go:77", after := #[{ on := 0, ground := Ground.data }, { on := 0, ground := Ground.chain }], guard := none }) (v := ?_) (by kernel_rfl) rfl (by rfl) (by kernel_rfl) (by kernel_rfl) (fun _ _ _ h => h) ?_ (by assumption) ?_
        rotate_left
        · (intro w hSw; (try dsimp only at hSw); go_simp; try with_reducible rfl)
        try simp only [Act.put, List.setIfInBounds_toArray, List.set_cons_zero, List.set_cons_succ]
        refine held_take 2 (oi := { dst := some 27, op := Op.load 24 (Operand.tmp 2), type := 24, pos := "law.go:77", after := #[{ on := 1, ground := Ground.guard }], guard := some (1, true) }) (v := ?_) (by kernel_rfl) rfl (by rfl) (by kernel_rfl) (by kernel_rfl) (fun _ _ _ h => h) ?_ (by assumption) ?_
        rotate_left
        · (intro w hSw; (try dsimp only at hSw); go_simp; try with_reducible rfl)
        try simp only [Act.put, List.setIfInBounds_toArray, List.set_cons_zero, List.set_cons_succ]
        refine held_take 3 (oi := { dst := some 28, op := Op.move (Operand.tmp 1), type := 22, pos := "law.go:77", after := #[{ on := 1, ground := Ground.guard }], guard := some (1, true) }) (v := ?_) (by kernel_rfl) rfl (by rfl) (by kernel_rfl) (by kernel_rfl) (fun _ _ _ h => h) ?_ (by assumption) ?_
        rotate_left
        · (intro w hSw; (try dsimp only at hSw); go_simp; try with_reducible rfl)
        try simp only [Act.put, List.setIfInBounds_toArray, List.set_cons_zero, List.set_cons_succ]
        refine held_one 4 (oi := { dst := some 29, op := Op.call { callee := Callee.value (Operand.func 25), args := #[Operand.tmp 27, Operand.tmp 28], argTypes := #[24, 22] }, type := 4, pos := "law.go:77", after := #[{ on := 2, ground := Ground.data }, { on := 3, ground := Ground.data }, { on := 1, ground := Ground.chain }, { on := 1, ground := Ground.guard }], guard := some (1, true) }) (by kernel_rfl) rfl (fun K hK => ?_)
        go_simp
        first
          | (go_at_call 16
             refine (live3_calls _).mono ?_
             rintro e W2 ⟨rfl, b2⟩
             have B2 := hide (Below.trans (unhide (by assumption : Hid (Below w7.heap.size w7 _))) (b2.mono (Below.size (unhide (by assumption : Hid (Below w7.heap.size w7 _))))))
             clear b2)
          | (go_at_call 17
             refine (right_calls ((unhide V7).later (unhide (by assumption : Hid (Below w7.heap.size w7 _)))) ((unhide L7).later (unhide (by assumption : Hid (Below w7.heap.size w7 _)))) vn ln (unhide VN) (unhide LN) hvx hlx).mono ?_
             rw [hqa]
             rintro e W2 ⟨rfl, b2⟩
             have B2 := hide (Below.trans (unhide (by assumption : Hid (Below w7.heap.size w7 _))) (b2.mono (Below.size (unhide (by assumption : Hid (Below w7.heap.size w7 _))))))
             clear b2)
          | (go_at_call_of 25 (Value.slice a1 n1 c1)
             refine (quorum_calls ((unhide V7).later (unhide (by assumption : Hid (Below w7.heap.size w7 _)))) ((unhide L7).later (unhide (by assumption : Hid (Below w7.heap.size w7 _)))) ((unhide Q7).later (unhide (by assumption : Hid (Below w7.heap.size w7 _)))) vn ln n1 (unhide VN) (unhide LN) (unhide N1) hvx hlx m1).mono ?_
             rw [hqy]
             rintro e W2 ⟨rfl, b2⟩
             have B2 := hide (Below.trans (unhide (by assumption : Hid (Below w7.heap.size w7 _))) (b2.mono (Below.size (unhide (by assumption : Hid (Below w7.heap.size w7 _))))))
             clear b2)
          | (go_at_call_of 25 (Value.slice sp7 n7 k7)
             refine (quorum_calls ((unhide V7).later (unhide (by assumption : Hid (Below w7.heap.size w7 _)))) ((unhide L7).later (unhide (by assumption : Hid (Below w7.heap.size w7 _)))) ((unhide Y7).later (unhide (by assumption : Hid (Below w7.heap.size w7 _)))) vn ln n7 (unhide VN) (unhide LN) (unhide N7) hvx hlx m7).mono ?_
             rw [unhide QA]
             rintro e W2 ⟨rfl, b2⟩
             have B2 := hide (Below.trans (unhide (by assumption : Hid (Below w7.heap.size w7 _))) (b2.mono (Below.size (unhide (by assumption : Hid (Below w7.heap.size w7 _))))))
             clear b2)
          | (go_at_call_of 25 (Value.slice none 0 0)
             refine (quorum_calls ((unhide V7).later (unhide (by assumption : Hid (Below w7.heap.size w7 _)))) ((unhide L7).later (unhide (by assumption : Hid (Below w7.heap.size w7 _)))) (ints_nil _ _) vn ln 0 (unhide VN) (unhide LN) rfl hvx hlx (by simp [maxLen])).mono ?_
             rw [unhide QN]
             rintro e W2 ⟨rfl, b2⟩
             have B2 := hide (Below.trans (unhide (by assumption : Hid (Below w7.heap.size w7 _))) (b2.mono (Below.size (unhide (by assumption : Hid (Below w7.heap.size w7 _))))))
             clear b2)
        go_wp2_with fail
        refine hK.out _ _ ?_ (fun hHeld => ?_)
        · try dsimp only
          exact ⟨cell_later (unhide (by assumption : Hid (Below w7.heap.size w7 _))) d0, cell_later (unhide (by assumption : Hid (Below w7.heap.size w7 _))) d1⟩
        clear hK K
        try simp only [Act.put, List.setIfInBounds_toArray, List.set_cons_zero, List.set_cons_succ]
        refine held_take 5 (oi := { dst := some 30, op := Op.move (Operand.tmp 29), type := 4, pos := "law.go:77", after := #[{ on := 4, ground := Ground.data }, { on := 4, ground := Ground.chain }, { on := 1, ground := Ground.guard }], guard := some (1, true) }) (v := ?_) (by kernel_rfl) rfl (by rfl) (by kernel_rfl) (by kernel_rfl) (fun _ _ _ h => h) ?_ (by assumption) ?_
        rotate_left
        · (intro w hSw; (try dsimp only at hSw); go_simp; try with_reducible rfl)
        try simp only [Act.put, List.setIfInBounds_toArray, List.set_cons_zero, List.set_cons_succ]
        refine held_skip 6 (oi := { dst := some 31, op := Op.load 24 (Operand.tmp 2), type := 24, pos := "law.go:77", after := #[{ on := 5, ground := Ground.guard }], guard := some (5, true) }) (by kernel_rfl) rfl (by rfl) (by kernel_rfl) (by kernel_rfl) (fun _ _ _ h => h) (by assumption) ?_
        try simp only [Act.put, List.setIfInBounds_toArray, List.set_cons_zero, List.set_cons_succ]
        refine held_skip 7 (oi := { dst := some 32, op := Op.move (Operand.tmp 5), type := 22, pos := "law.go:77", after := #[{ on := 5, ground := Ground.guard }], guard := some (5, true) }) (by kernel_rfl) rfl (by rfl) (by kernel_rfl) (by kernel_rfl) (fun _ _ _ h => h) (by assumption) ?_
        try simp only [Act.put, List.setIfInBounds_toArray, List.set_cons_zero, List.set_cons_succ]
        refine held_none 8 (oi := { dst := some 33, op := Op.call { callee := Callee.value (Operand.func 25), args := #[Operand.tmp 31, Operand.tmp 32], argTypes := #[24, 22] }, type := 4, pos := "law.go:77", after := #[{ on := 6, ground := Ground.data }, { on := 7, ground := Ground.data }, { on := 5, ground := Ground.chain }, { on := 5, ground := Ground.guard }], guard := some (5, true) }) (by kernel_rfl) rfl (by rfl) (by assumption) ?_
        try simp only [Act.put, List.setIfInBounds_toArray, List.set_cons_zero, List.set_cons_succ]
        refine held_take 9 (oi := { dst := some 34, op := Op.pick (Operand.tmp 30) (Operand.tmp 33) (Operand.const (Value.bool false)), type := 4, pos := "law.go:77", after := #[{ on := 5, ground := Ground.data }, { on := 8, ground := Ground.data }, { on := 1, ground := Ground.guard }], guard := some (1, true) }) (v := ?_) (by kernel_rfl) rfl (by rfl) (by kernel_rfl) (by kernel_rfl) (fun _ _ _ h => h) ?_ (by assumption) ?_
        rotate_left
        · (intro w hSw; (try dsimp only at hSw); go_simp; try with_reducible rfl)
        try simp only [Act.put, List.setIfInBounds_toArray, List.set_cons_zero, List.set_cons_succ]
        refine held_take 10 (oi := { dst := some 35, op := Op.unOp UnOp.not 4 (Operand.tmp 34), type := 4, pos := "law.go:77", after := #[{ on := 9, ground := Ground.data }, { on := 1, ground := Ground.guard }], guard := some (1, true) }) (v := ?_) (by kernel_rfl) rfl (by rfl) (by kernel_rfl) (by kernel_rfl) (fun _ _ _ h => h) ?_ (by assumption) ?_
        rotate_left
        · (intro w hSw; (try dsimp only at hSw); go_simp; try with_reducible rfl)
        try simp only [Act.put, List.setIfInBounds_toArray, List.set_cons_zero, List.set_cons_succ]
        refine held_take 11 (oi := { dst := some 36, op := Op.pick (Operand.tmp 26) (Operand.tmp 35) (Operand.const (Value.bool false)), type := 4, pos := "law.go:77", after := #[{ on := 1, ground := Ground.data }, { on := 10, ground := Ground.data }], guard := none }) (v := ?_) (by kernel_rfl) rfl (by rfl) (by kernel_rfl) (by kernel_rfl) (fun _ _ _ h => h) ?_ (by assumption) ?_
        rotate_left
        · (intro w hSw; (try dsimp only at hSw); go_simp; try with_reducible rfl)
        try simp only [Act.put, List.setIfInBounds_toArray, List.set_cons_zero, List.set_cons_succ]
        refine held_take 12 (oi := { dst := some 37, op := Op.move (Operand.tmp 36), type := 4, pos := "law.go:77", after := #[{ on := 11, ground := Ground.data }, { on := 8, ground := Ground.chain }], guard := none }) (v := ?_) (by kernel_rfl) rfl (by rfl) (by kernel_rfl) (by kernel_rfl) (fun _ _ _ h => h) ?_ (by assumption) ?_
        rotate_left
        · (intro w hSw; (try dsimp only at hSw); go_simp; try with_reducible rfl)
        try simp only [Act.put, List.setIfInBounds_toArray, List.set_cons_zero, List.set_cons_succ]
        refine held_take 13 (oi := { dst := some 38, op := Op.load 24 (Operand.tmp 2), type := 24, pos := "law.go:77", after := #[{ on := 12, ground := Ground.guard }], guard := some (12, true) }) (v := ?_) (by kernel_rfl) rfl (by rfl) (by kernel_rfl) (by kernel_rfl) (fun _ _ _ h => h) ?_ (by assumption) ?_
        rotate_left
        · (intro w hSw; (try dsimp only at hSw); go_simp; try with_reducible rfl)
        try simp only [Act.put, List.setIfInBounds_toArray, List.set_cons_zero, List.set_cons_succ]
        refine held_take 14 (oi := { dst := some 39, op := Op.move (Operand.tmp 7), type := 22, pos := "law.go:77", after := #[{ on := 12, ground := Ground.guard }], guard := some (12, true) }) (v := ?_) (by kernel_rfl) rfl (by rfl) (by kernel_rfl) (by kernel_rfl) (fun _ _ _ h => h) ?_ (by assumption) ?_
        rotate_left
        · (intro w hSw; (try dsimp only at hSw); go_simp; try with_reducible rfl)
        try simp only [Act.put, List.setIfInBounds_toArray, List.set_cons_zero, List.set_cons_succ]
        refine held_take 16 (oi := { dst := some 41, op := Op.load 24 (Operand.tmp 2), type := 24, pos := "law.go:77", after := #[{ on := 12, ground := Ground.guard }], guard := some (12, true) }) (v := ?_) (by kernel_rfl) rfl (by rfl) (by kernel_rfl) (by kernel_rfl) (fun _ _ _ h => h) ?_ (by assumption) ?_
        rotate_left
        · (intro w hSw; (try dsimp only at hSw); go_simp; try with_reducible rfl)
        try simp only [Act.put, List.setIfInBounds_toArray, List.set_cons_zero, List.set_cons_succ]
        refine held_one 15 (oi := { dst := some 40, op := Op.call { callee := Callee.value (Operand.func 25), args := #[Operand.tmp 38, Operand.tmp 39], argTypes := #[24, 22] }, type := 4, pos := "law.go:77", after := #[{ on := 13, ground := Ground.data }, { on := 14, ground := Ground.data }, { on := 12, ground := Ground.chain }, { on := 12, ground := Ground.guard }], guard := some (12, true) }) (by kernel_rfl) rfl (fun K hK => ?_)
        go_simp
        first
          | (go_at_call 16
             refine (live3_calls _).mono ?_
             rintro e W2 ⟨rfl, b2⟩
             have B2 := hide (Below.trans (unhide (by assumption : Hid (Below w7.heap.size w7 _))) (b2.mono (Below.size (unhide (by assumption : Hid (Below w7.heap.size w7 _))))))
             clear b2)
          | (go_at_call 17
             refine (right_calls ((unhide V7).later (unhide (by assumption : Hid (Below w7.heap.size w7 _)))) ((unhide L7).later (unhide (by assumption : Hid (Below w7.heap.size w7 _)))) vn ln (unhide VN) (unhide LN) hvx hlx).mono ?_
             rw [hqa]
             rintro e W2 ⟨rfl, b2⟩
             have B2 := hide (Below.trans (unhide (by assumption : Hid (Below w7.heap.size w7 _))) (b2.mono (Below.size (unhide (by assumption : Hid (Below w7.heap.size w7 _))))))
             clear b2)
          | (go_at_call_of 25 (Value.slice a1 n1 c1)
             refine (quorum_calls ((unhide V7).later (unhide (by assumption : Hid (Below w7.heap.size w7 _)))) ((unhide L7).later (unhide (by assumption : Hid (Below w7.heap.size w7 _)))) ((unhide Q7).later (unhide (by assumption : Hid (Below w7.heap.size w7 _)))) vn ln n1 (unhide VN) (unhide LN) (unhide N1) hvx hlx m1).mono ?_
             rw [hqy]
             rintro e W2 ⟨rfl, b2⟩
             have B2 := hide (Below.trans (unhide (by assumption : Hid (Below w7.heap.size w7 _))) (b2.mono (Below.size (unhide (by assumption : Hid (Below w7.heap.size w7 _))))))
             clear b2)
          | (go_at_call_of 25 (Value.slice sp7 n7 k7)
             refine (quorum_calls ((unhide V7).later (unhide (by assumption : Hid (Below w7.heap.size w7 _)))) ((unhide L7).later (unhide (by assumption : Hid (Below w7.heap.size w7 _)))) ((unhide Y7).later (unhide (by assumption : Hid (Below w7.heap.size w7 _)))) vn ln n7 (unhide VN) (unhide LN) (unhide N7) hvx hlx m7).mono ?_
             rw [unhide QA]
             rintro e W2 ⟨rfl, b2⟩
             have B2 := hide (Below.trans (unhide (by assumption : Hid (Below w7.heap.size w7 _))) (b2.mono (Below.size (unhide (by assumption : Hid (Below w7.heap.size w7 _))))))
             clear b2)
          | (go_at_call_of 25 (Value.slice none 0 0)
             refine (quorum_calls ((unhide V7).later (unhide (by assumption : Hid (Below w7.heap.size w7 _)))) ((unhide L7).later (unhide (by assumption : Hid (Below w7.heap.size w7 _)))) (ints_nil _ _) vn ln 0 (unhide VN) (unhide LN) rfl hvx hlx (by simp [maxLen])).mono ?_
             rw [unhide QN]
             rintro e W2 ⟨rfl, b2⟩
             have B2 := hide (Below.trans (unhide (by assumption : Hid (Below w7.heap.size w7 _))) (b2.mono (Below.size (unhide (by assumption : Hid (Below w7.heap.size w7 _))))))
             clear b2)
        go_wp2_with fail
        refine hK.out _ _ ?_ (fun hHeld => ?_)
        · try dsimp only
          exact ⟨cell_later (unhide (by assumption : Hid (Below w7.heap.size w7 _))) d0, cell_later (unhide (by assumption : Hid (Below w7.heap.size w7 _))) d1⟩
        clear hK K
        try simp only [Act.put, List.setIfInBounds_toArray, List.set_cons_zero, List.set_cons_succ]
        refine held_one 17 (oi := { dst := some 42, op := Op.call { callee := Callee.value (Operand.func 17), args := #[Operand.tmp 41], argTypes := #[24] }, type := 4, pos := "law.go:77", after := #[{ on := 16, ground := Ground.data }, { on := 15, ground := Ground.chain }, { on := 12, ground := Ground.guard }], guard := some (12, true) }) (by kernel_rfl) rfl (fun K hK => ?_)
        go_simp
        first
          | (go_at_call 16
             refine (live3_calls _).mono ?_
             rintro e W2 ⟨rfl, b2⟩
             have B2 := hide (Below.trans (unhide (by assumption : Hid (Below w7.heap.size w7 _))) (b2.mono (Below.size (unhide (by assumption : Hid (Below w7.heap.size w7 _))))))
             clear b2)
          | (go_at_call 17
             refine (right_calls ((unhide V7).later (unhide (by assumption : Hid (Below w7.heap.size w7 _)))) ((unhide L7).later (unhide (by assumption : Hid (Below w7.heap.size w7 _)))) vn ln (unhide VN) (unhide LN) hvx hlx).mono ?_
             rw [hqa]
             rintro e W2 ⟨rfl, b2⟩
             have B2 := hide (Below.trans (unhide (by assumption : Hid (Below w7.heap.size w7 _))) (b2.mono (Below.size (unhide (by assumption : Hid (Below w7.heap.size w7 _))))))
             clear b2)
          | (go_at_call_of 25 (Value.slice a1 n1 c1)
             refine (quorum_calls ((unhide V7).later (unhide (by assumption : Hid (Below w7.heap.size w7 _)))) ((unhide L7).later (unhide (by assumption : Hid (Below w7.heap.size w7 _)))) ((unhide Q7).later (unhide (by assumption : Hid (Below w7.heap.size w7 _)))) vn ln n1 (unhide VN) (unhide LN) (unhide N1) hvx hlx m1).mono ?_
             rw [hqy]
             rintro e W2 ⟨rfl, b2⟩
             have B2 := hide (Below.trans (unhide (by assumption : Hid (Below w7.heap.size w7 _))) (b2.mono (Below.size (unhide (by assumption : Hid (Below w7.heap.size w7 _))))))
             clear b2)
          | (go_at_call_of 25 (Value.slice sp7 n7 k7)
             refine (quorum_calls ((unhide V7).later (unhide (by assumption : Hid (Below w7.heap.size w7 _)))) ((unhide L7).later (unhide (by assumption : Hid (Below w7.heap.size w7 _)))) ((unhide Y7).later (unhide (by assumption : Hid (Below w7.heap.size w7 _)))) vn ln n7 (unhide VN) (unhide LN) (unhide N7) hvx hlx m7).mono ?_
             rw [unhide QA]
             rintro e W2 ⟨rfl, b2⟩
             have B2 := hide (Below.trans (unhide (by assumption : Hid (Below w7.heap.size w7 _))) (b2.mono (Below.size (unhide (by assumption : Hid (Below w7.heap.size w7 _))))))
             clear b2)
          | (go_at_call_of 25 (Value.slice none 0 0)
             refine (quorum_calls ((unhide V7).later (unhide (by assumption : Hid (Below w7.heap.size w7 _)))) ((unhide L7).later (unhide (by assumption : Hid (Below w7.heap.size w7 _)))) (ints_nil _ _) vn ln 0 (unhide VN) (unhide LN) rfl hvx hlx (by simp [maxLen])).mono ?_
             rw [unhide QN]
             rintro e W2 ⟨rfl, b2⟩
             have B2 := hide (Below.trans (unhide (by assumption : Hid (Below w7.heap.size w7 _))) (b2.mono (Below.size (unhide (by assumption : Hid (Below w7.heap.size w7 _))))))
             clear b2)
        go_wp2_with fail
        refine hK.out _ _ ?_ (fun hHeld => ?_)
        · try dsimp only
          exact ⟨cell_later (unhide (by assumption : Hid (Below w7.heap.size w7 _))) d0, cell_later (unhide (by assumption : Hid (Below w7.heap.size w7 _))) d1⟩
        clear hK K
        try simp only [Act.put, List.setIfInBounds_toArray, List.set_cons_zero, List.set_cons_succ]
        refine held_take 18 (oi := { dst := some 43, op := Op.binOp BinOp.eql 4 (Operand.tmp 40) (Operand.tmp 42) 4, type := 4, pos := "law.go:77", after := #[{ on := 15, ground := Ground.data }, { on := 17, ground := Ground.data }, { on := 12, ground := Ground.guard }], guard := some (12, true) }) (v := ?_) (by kernel_rfl) rfl (by rfl) (by kernel_rfl) (by kernel_rfl) (fun _ _ _ h => h) ?_ (by assumption) ?_
        rotate_left
        · (intro w hSw; (try dsimp only at hSw); go_simp; try with_reducible rfl)
        try simp only [Act.put, List.setIfInBounds_toArray, List.set_cons_zero, List.set_cons_succ]
        refine held_take 19 (oi := { dst := some 44, op := Op.pick (Operand.tmp 37) (Operand.tmp 43) (Operand.const (Value.bool false)), type := 4, pos := "law.go:77", after := #[{ on := 12, ground := Ground.data }, { on := 18, ground := Ground.data }], guard := none }) (v := ?_) (by kernel_rfl) rfl (by rfl) (by kernel_rfl) (by kernel_rfl) (fun _ _ _ h => h) ?_ (by assumption) ?_
        rotate_left
        · (intro w hSw; (try dsimp only at hSw); go_simp; try with_reducible rfl)
        try simp only [Act.put, List.setIfInBounds_toArray, List.set_cons_zero, List.set_cons_succ]
        refine held_take 20 (oi := { dst := some 45, op := Op.move (Operand.tmp 44), type := 4, pos := "law.go:77", after := #[{ on := 19, ground := Ground.data }, { on := 17, ground := Ground.chain }], guard := none }) (v := ?_) (by kernel_rfl) rfl (by rfl) (by kernel_rfl) (by kernel_rfl) (fun _ _ _ h => h) ?_ (by assumption) ?_
        rotate_left
        · (intro w hSw; (try dsimp only at hSw); go_simp; try with_reducible rfl)
        try simp only [Act.put, List.setIfInBounds_toArray, List.set_cons_zero, List.set_cons_succ]
        refine held_take 21 (oi := { dst := some 46, op := Op.load 24 (Operand.tmp 2), type := 24, pos := "law.go:77", after := #[{ on := 20, ground := Ground.guard }], guard := some (20, true) }) (v := ?_) (by kernel_rfl) rfl (by rfl) (by kernel_rfl) (by kernel_rfl) (fun _ _ _ h => h) ?_ (by assumption) ?_
        rotate_left
        · (intro w hSw; (try dsimp only at hSw); go_simp; try with_reducible rfl)
        try simp only [Act.put, List.setIfInBounds_toArray, List.set_cons_zero, List.set_cons_succ]
        refine held_one 22 (oi := { dst := some 47, op := Op.call { callee := Callee.value (Operand.func 25), args := #[Operand.tmp 46, Operand.const (Value.slice none 0 0)], argTypes := #[24, 22] }, type := 4, pos := "law.go:77", after := #[{ on := 21, ground := Ground.data }, { on := 20, ground := Ground.chain }, { on := 20, ground := Ground.guard }], guard := some (20, true) }) (by kernel_rfl) rfl (fun K hK => ?_)
        go_simp
        first
          | (go_at_call 16
             refine (live3_calls _).mono ?_
             rintro e W2 ⟨rfl, b2⟩
             have B2 := hide (Below.trans (unhide (by assumption : Hid (Below w7.heap.size w7 _))) (b2.mono (Below.size (unhide (by assumption : Hid (Below w7.heap.size w7 _))))))
             clear b2)
          | (go_at_call 17
             refine (right_calls ((unhide V7).later (unhide (by assumption : Hid (Below w7.heap.size w7 _)))) ((unhide L7).later (unhide (by assumption : Hid (Below w7.heap.size w7 _)))) vn ln (unhide VN) (unhide LN) hvx hlx).mono ?_
             rw [hqa]
             rintro e W2 ⟨rfl, b2⟩
             have B2 := hide (Below.trans (unhide (by assumption : Hid (Below w7.heap.size w7 _))) (b2.mono (Below.size (unhide (by assumption : Hid (Below w7.heap.size w7 _))))))
             clear b2)
          | (go_at_call_of 25 (Value.slice a1 n1 c1)
             refine (quorum_calls ((unhide V7).later (unhide (by assumption : Hid (Below w7.heap.size w7 _)))) ((unhide L7).later (unhide (by assumption : Hid (Below w7.heap.size w7 _)))) ((unhide Q7).later (unhide (by assumption : Hid (Below w7.heap.size w7 _)))) vn ln n1 (unhide VN) (unhide LN) (unhide N1) hvx hlx m1).mono ?_
             rw [hqy]
             rintro e W2 ⟨rfl, b2⟩
             have B2 := hide (Below.trans (unhide (by assumption : Hid (Below w7.heap.size w7 _))) (b2.mono (Below.size (unhide (by assumption : Hid (Below w7.heap.size w7 _))))))
             clear b2)
          | (go_at_call_of 25 (Value.slice sp7 n7 k7)
             refine (quorum_calls ((unhide V7).later (unhide (by assumption : Hid (Below w7.heap.size w7 _)))) ((unhide L7).later (unhide (by assumption : Hid (Below w7.heap.size w7 _)))) ((unhide Y7).later (unhide (by assumption : Hid (Below w7.heap.size w7 _)))) vn ln n7 (unhide VN) (unhide LN) (unhide N7) hvx hlx m7).mono ?_
             rw [unhide QA]
             rintro e W2 ⟨rfl, b2⟩
             have B2 := hide (Below.trans (unhide (by assumption : Hid (Below w7.heap.size w7 _))) (b2.mono (Below.size (unhide (by assumption : Hid (Below w7.heap.size w7 _))))))
             clear b2)
          | (go_at_call_of 25 (Value.slice none 0 0)
             refine (quorum_calls ((unhide V7).later (unhide (by assumption : Hid (Below w7.heap.size w7 _)))) ((unhide L7).later (unhide (by assumption : Hid (Below w7.heap.size w7 _)))) (ints_nil _ _) vn ln 0 (unhide VN) (unhide LN) rfl hvx hlx (by simp [maxLen])).mono ?_
             rw [unhide QN]
             rintro e W2 ⟨rfl, b2⟩
             have B2 := hide (Below.trans (unhide (by assumption : Hid (Below w7.heap.size w7 _))) (b2.mono (Below.size (unhide (by assumption : Hid (Below w7.heap.size w7 _))))))
             clear b2)
        go_wp2_with fail
        refine hK.out _ _ ?_ (fun hHeld => ?_)
        · try dsimp only
          exact ⟨cell_later (unhide (by assumption : Hid (Below w7.heap.size w7 _))) d0, cell_later (unhide (by assumption : Hid (Below w7.heap.size w7 _))) d1⟩
        clear hK K
        try simp only [Act.put, List.setIfInBounds_toArray, List.set_cons_zero, List.set_cons_succ]
        refine held_take 23 (oi := { dst := some 48, op := Op.unOp UnOp.not 4 (Operand.tmp 47), type := 4, pos := "law.go:77", after := #[{ on := 22, ground := Ground.data }, { on := 20, ground := Ground.guard }], guard := some (20, true) }) (v := ?_) (by kernel_rfl) rfl (by rfl) (by kernel_rfl) (by kernel_rfl) (fun _ _ _ h => h) ?_ (by assumption) ?_
        rotate_left
        · (intro w hSw; (try dsimp only at hSw); go_simp; try with_reducible rfl)
        try simp only [Act.put, List.setIfInBounds_toArray, List.set_cons_zero, List.set_cons_succ]
        refine held_take 24 (oi := { dst := some 49, op := Op.pick (Operand.tmp 45) (Operand.tmp 48) (Operand.const (Value.bool false)), type := 4, pos := "law.go:77", after := #[{ on := 20, ground := Ground.data }, { on := 23, ground := Ground.data }], guard := none }) (v := ?_) (by kernel_rfl) rfl (by rfl) (by kernel_rfl) (by kernel_rfl) (fun _ _ _ h => h) ?_ (by assumption) ?_
        rotate_left
        · (intro w hSw; (try dsimp only at hSw); go_simp; try with_reducible rfl)
        try simp only [Act.put, List.setIfInBounds_toArray, List.set_cons_zero, List.set_cons_succ]
        refine held_take 25 (oi := { dst := some 4, op := Op.assign (Operand.tmp 49), type := 4, pos := "law.go:77", after := #[{ on := 24, ground := Ground.data }, { on := 22, ground := Ground.chain }, { on := 0, ground := Ground.phase }, { on := 1, ground := Ground.phase }, { on := 2, ground := Ground.phase }, { on := 3, ground := Ground.phase }, { on := 4, ground := Ground.phase }, { on := 5, ground := Ground.phase }, { on := 6, ground := Ground.phase }, { on := 7, ground := Ground.phase }, { on := 8, ground := Ground.phase }, { on := 9, ground := Ground.phase }, { on := 10, ground := Ground.phase }, { on := 11, ground := Ground.phase }, { on := 12, ground := Ground.phase }, { on := 13, ground := Ground.phase }, { on := 14, ground := Ground.phase }, { on := 15, ground := Ground.phase }, { on := 16, ground := Ground.phase }, { on := 17, ground := Ground.phase }, { on := 18, ground := Ground.phase }, { on := 19, ground := Ground.phase }, { on := 20, ground := Ground.phase }, { on := 21, ground := Ground.phase }, { on := 22, ground := Ground.phase }, { on := 23, ground := Ground.phase }, { on := 24, ground := Ground.phase }], guard := none }) (v := ?_) (by kernel_rfl) rfl (by rfl) (by kernel_rfl) (by kernel_rfl) (fun _ _ _ h => h) ?_ (by assumption) ?_
        rotate_left
        · (intro w hSw; (try dsimp only at hSw); go_simp; try with_reducible rfl)
        try simp only [Act.put, List.setIfInBounds_toArray, List.set_cons_zero, List.set_cons_succ]
        refine wpAnyH_done (by kernel_rfl) ?_ _
        go_wp2
        go_ret
        exact ⟨rfl, by first | exact (unhide b1).trans ((Below.trans (unhide A7) ((unhide (by assumption : Hid (Below w7.heap.size w7 _))).mono (by have := (unhide A7).size; have := unhide ZE; omega))).mono (by have := (unhide b1).size; omega)) | (rw [hD]; exact (unhide b1).trans ((Below.trans (unhide A7) ((unhide (by assumption : Hid (Below w7.heap.size w7 _))).mono (by have := (unhide A7).size; have := unhide ZE; omega))).mono (by have := (unhide b1).size; omega)))⟩

set_option maxRecDepth 100000 in
theorem lifted (os : Os) (started : os.Started) (H : Type) (enc : TypeId × Value → H) :
    ReturnsInHanded {} Try.checked os 8 .any (Rows.memberHalvesSpec.pre6 enc Try.prog Try.f8 Rows.memberHalvesRow.domain false) (Rows.memberHalvesSpec.post enc Try.prog Try.f8 false true false false) := by
  refine returnsInHanded_of_change_sized (C := Try.checked) own started (by kernel_rfl) Try.func8
    (ChangeSpec.witness6 (enc := enc) (C := Try.checked) false ⟨#[], #[.agg #[.slice none 0 0, .slice none 0 0], .slice none 0 0], []⟩ 8 (by kernel_rfl) (by kernel_rfl) (by kernel_rfl) (by kernel_rfl)) ?_
  intro W base args ds gs before hval0 hW hcnd hsz _
  have hval : ∀ (j : Nat) t v, Try.f8.params[j]? = some t → args[j]? = some v → Value.okWide Try.prog W .any base t v := hval0
  have hW' := hW
  obtain ⟨p, q, hA0, hV, rfl, hfz, hnd⟩ := hW
  have hA : DataW.TrodAll enc Try.prog W 0 (fun _ => true) true Try.f8.params.toList args.toList ds p := hA0
  rw [Try.params8] at hA hval
  obtain ⟨v0, vs0, d0, ds0, p0, q0, hargs, rfl, rfl, h0, r0⟩ := trodAll_cons hA
  obtain ⟨v1, vs1, d1, ds1, p1, q1, rfl, rfl, rfl, h1, r1⟩ := trodAll_cons r0
  obtain ⟨rfl, rfl, rfl⟩ := trodAll_nil r1
  obtain rfl : args = #[v0, v1] := by cases args; simp_all
  obtain ⟨rfl, rfl⟩ := trodVars_none hV
  have k0 := h0
  have lt0 : ∀ x ∈ p0, x.block < W.heap.size := by obtain ⟨m, hm⟩ := k0; exact DataW.trod_lt m _ _ _ hm
  obtain ⟨va0, vc0, vs0, la0, lc0, ls0, rfl, hsv0, hV0, hzv0, hsl0, hL0, hzl0⟩ := open_membersS (hval 0 24 v0 rfl rfl) h0 (fun n hn => of_decide_eq_true (List.all_eq_true.1 hsz n (DataW.weights_mem_each (j := 0) (d := d0) rfl rfl n hn)))
  obtain ⟨a1, len1, c1, rfl⟩ := okWide_slice Try.underlying22 (hval 1 22 v1 rfl rfl)
  have k1 := h1
  have lt1 : ∀ x ∈ p1, x.block < W.heap.size := by obtain ⟨m, hm⟩ := k1; exact DataW.trod_lt m _ _ _ hm
  obtain ⟨l1, rfl, hs1, hb1, hz1⟩ := row64S h1 (fun n hn => of_decide_eq_true (List.all_eq_true.1 hsz n (DataW.weights_mem_each (j := 1) (d := d1) rfl rfl n hn)))
  clear hA0 hval0
  refine (walk va0 vc0 vs0 la0 lc0 ls0 a1 c1 l1 W hsv0 hV0 hzv0 hsl0 hL0 hzl0 hs1 hb1 hz1).mono fun e W' ⟨he, bel⟩ => ?_
  subst he
  exact ⟨_, rfl, _, _, _, [], _, [], hW', trodAll_mk1 (shut_bool Try.underlying4 _), (trodAll_cons_mk (Below.trod laidOut (by kernel_rfl) (of_decide_eq_true (by kernel_rfl)) k0 bel lt0) (trodAll_cons_mk (Below.trod laidOut (by kernel_rfl) (of_decide_eq_true (by kernel_rfl)) k1 bel lt1) trodAll_mk0)), rfl, bel.frame _, fun h => by cases h⟩

theorem proved : Rows.MemberHalvesSaid :=
  OpenClaim.holds_of_wide 8 Try.f8 rfl rfl rfl rfl rfl rfl rfl ⟨rfl, rfl, rfl, rfl, rfl⟩ rfl rfl rfl rfl rfl (by kernel_rfl) Try.func8 (by kernel_rfl)
    (of_decide_eq_true (by kernel_rfl)) (by unfold Func.isWrapper; first | (rw [if_pos (by decide +kernel)]; kernel_rfl) | (rw [if_neg (by decide +kernel)]; exact ⟨rfl, rfl⟩))
    (fun os started H enc _ => lifted os started H enc)
end Go.Proofs.Ytnclkkoefejjiaa.memberHalves
namespace Go.Proofs.Ytnclkkoefejjiaa
theorem memberHalves_holds : Rows.MemberHalvesSaid := memberHalves.proved
#print axioms memberHalves_holds
end Go.Proofs.Ytnclkkoefejjiaa
