/- Proved: a quorum of members and one of what a change makes of them have a voter in common, whatever the members, the change and the two lists of numbers; no condition. -/
import Derived.Test.YtnclkkoefejjiaaMpu
namespace Go.Proofs.Ytnclkkoefejjiaa.memberMeets
open Go.ChangeShapes Go.WideShapes Go.ChangeAt Go.RowKit
set_option linter.unusedVariables false

theorem own : ownKnob Try.prog.godebug = none := by kernel_rfl
theorem laidOut : laidOutB Try.prog = true := by kernel_rfl

abbrev lB (va : Option Addr) (vn vc : Nat) (la : Option Addr) (ln lc : Nat) : Obj := .cells #[.slice va vn vc, .slice la ln lc] 46 (0, 0)
set_option maxRecDepth 20000 in
set_option maxHeartbeats 16000000 in
theorem walk (va0 : Option Addr) (vc0 : Nat) (vs0 : List Int) (la0 : Option Addr) (lc0 : Nat) (ls0 : List Int) (t1 u1 : Int) (va2 : Option Addr) (vc2 : Nat) (vs2 : List Int) (la2 : Option Addr) (lc2 : Nat) (ls2 : List Int) (w : World)
    (hsv0 : vs0.length * 8 ≤ 140737488351232) (hV0 : IntsAt w va0 vs0) (_ : va0 = none → vc0 = 0) (hsl0 : ls0.length * 8 ≤ 140737488351232) (hL0 : IntsAt w la0 ls0) (_ : la0 = none → lc0 = 0)
    (_ : -9223372036854775808 ≤ t1 ∧ t1 ≤ 9223372036854775807) (bu1 : -9223372036854775808 ≤ u1 ∧ u1 ≤ 9223372036854775807)
    (hsv2 : vs2.length * 8 ≤ 140737488351232) (hV2 : IntsAt w va2 vs2) (_ : va2 = none → vc2 = 0) (hsl2 : ls2.length * 8 ≤ 140737488351232) (hL2 : IntsAt w la2 ls2) (_ : la2 = none → lc2 = 0) :
    Calls Try.prog 7 #[mV va0 vs0.length vc0 la0 ls0.length lc0, .agg #[.int .i64 t1, .int .i64 u1], mV va2 vs2.length vc2 la2 ls2.length lc2] w fun e w' => e = .returned (.bool true) ∧ Below w.heap.size w w' := by
  obtain ⟨vn, hvn⟩ : ∃ n, vs0.length = n := ⟨_, rfl⟩
  obtain ⟨ln, hln⟩ : ∃ n, ls0.length = n := ⟨_, rfl⟩
  obtain ⟨na, hna⟩ : ∃ n, vs2.length = n := ⟨_, rfl⟩
  obtain ⟨nb, hnb⟩ : ∃ n, ls2.length = n := ⟨_, rfl⟩
  rw [hvn] at hsv0
  rw [hln] at hsl0
  rw [hna] at hsv2
  rw [hnb] at hsl2
  rw [hvn, hln, hna, hnb]
  have hvx : vn ≤ maxLen := by simp only [maxLen]; omega
  have hlx : ln ≤ maxLen := by simp only [maxLen]; omega
  have hax : na ≤ maxLen := by simp only [maxLen]; omega
  have hbx : nb ≤ maxLen := by simp only [maxLen]; omega
  have b1 := hide (show Below w.heap.size w (((w.alloc (mB va0 vn vc0 la0 ln lc0)).alloc (cB t1 u1)).alloc (lB va2 na vc2 la2 nb lc2)) from (((Below.refl _ _).alloc (Nat.le_refl _) _).alloc (by simp) _).alloc (by simp; omega) _)
  have X1 := hide (heap_old (lB va2 na vc2 la2 nb lc2) (heap_old (cB t1 u1) (heap_new w (mB va0 vn vc0 la0 ln lc0))))
  have C1 := hide (show (((w.alloc (mB va0 vn vc0 la0 ln lc0)).alloc (cB t1 u1)).alloc (lB va2 na vc2 la2 nb lc2)).heap[w.heap.size + 1]? = some (cB t1 u1) by
    have := heap_new (w.alloc (mB va0 vn vc0 la0 ln lc0)) (cB t1 u1)
    rw [World.size_alloc] at this
    exact heap_old _ this)
  have Y1 := hide (show (((w.alloc (mB va0 vn vc0 la0 ln lc0)).alloc (cB t1 u1)).alloc (lB va2 na vc2 la2 nb lc2)).heap[w.heap.size + 2]? = some (lB va2 na vc2 la2 nb lc2) by
    have := heap_new ((w.alloc (mB va0 vn vc0 la0 ln lc0)).alloc (cB t1 u1)) (lB va2 na vc2 la2 nb lc2)
    rwa [show ((w.alloc (mB va0 vn vc0 la0 ln lc0)).alloc (cB t1 u1)).heap.size = w.heap.size + 2 by simp] at this)
  have V := hide (hV0.later (unhide b1))
  have L := hide (hL0.later (unhide b1))
  have PA := hide (hV2.later (unhide b1))
  have PB := hide (hL2.later (unhide b1))
  have VN := hide hvn
  have LN := hide hln
  have NA := hide hna
  have NB := hide hnb
  have U64 := hide (show In64 u1 from bu1)
  have d0 := box_cell (unhide Y1) 0 _ rfl
  have d1 := box_cell (unhide Y1) 1 _ rfl
  clear hV0 hL0 hV2 hL2 hvn hln hna hnb bu1
  go_enter Try.func7, Try.ntmps7
  go_wp2_with fail
  generalize hD : w.heap.size = D at *
  generalize ((w.alloc (mB va0 vn vc0 la0 ln lc0)).alloc (cB t1 u1)).alloc (lB va2 na vc2 la2 nb lc2) = w1 at *
  refine wp_region_held_drew (S := fun w' => w'.cell? ⟨D + 2, 0, none⟩ = some (.slice va2 na vc2) ∧ w'.cell? ⟨D + 2, 1, none⟩ = some (.slice la2 nb lc2)) (by kernel_rfl) ?_ (fun hHeld => ?_)
  · try dsimp only
    exact ⟨d0, d1⟩
  refine held_take 0 (oi := { dst := some 13, op := Op.fieldAddr 46 (Operand.tmp 5) 0, type := 0, pos := "law.go:54", after := #[], guard := none }) (v := ?_) (by kernel_rfl) rfl (by rfl) (by kernel_rfl) (by kernel_rfl) (fun _ _ _ h => h) ?_ (by assumption) ?_
  rotate_left
  · (intro w hSw; (try dsimp only at hSw); go_simp; try with_reducible rfl)
  try simp only [Act.put, List.setIfInBounds_toArray, List.set_cons_zero, List.set_cons_succ]
  refine held_take 1 (oi := { dst := some 14, op := Op.load 22 (Operand.tmp 13), type := 22, pos := "law.go:54", after := #[{ on := 0, ground := Ground.data }], guard := none }) (v := ?_) (by kernel_rfl) rfl (by rfl) (by kernel_rfl) (by kernel_rfl) (fun _ _ _ h => h) ?_ (by assumption) ?_
  rotate_left
  · (intro w hSw; (try dsimp only at hSw); go_simp; try with_reducible rfl)
  try simp only [Act.put, List.setIfInBounds_toArray, List.set_cons_zero, List.set_cons_succ]
  refine held_take 2 (oi := { dst := some 15, op := Op.fieldAddr 46 (Operand.tmp 5) 1, type := 0, pos := "law.go:54", after := #[{ on := 4, ground := Ground.gcOnly Departure.lateStores }], guard := none }) (v := ?_) (by kernel_rfl) rfl (by rfl) (by kernel_rfl) (by kernel_rfl) (fun _ _ _ h => h) ?_ (by assumption) ?_
  rotate_left
  · (intro w hSw; (try dsimp only at hSw); go_simp; try with_reducible rfl)
  try simp only [Act.put, List.setIfInBounds_toArray, List.set_cons_zero, List.set_cons_succ]
  refine held_take 3 (oi := { dst := some 16, op := Op.load 22 (Operand.tmp 15), type := 22, pos := "law.go:54", after := #[{ on := 2, ground := Ground.data }, { on := 4, ground := Ground.gcOnly Departure.lateStores }], guard := none }) (v := ?_) (by kernel_rfl) rfl (by rfl) (by kernel_rfl) (by kernel_rfl) (fun _ _ _ h => h) ?_ (by assumption) ?_
  rotate_left
  · (intro w hSw; (try dsimp only at hSw); go_simp; try with_reducible rfl)
  try simp only [Act.put, List.setIfInBounds_toArray, List.set_cons_zero, List.set_cons_succ]
  refine held_take 4 (oi := { dst := some 7, op := Op.assign (Operand.tmp 14), type := 22, pos := "law.go:54", after := #[{ on := 1, ground := Ground.data }, { on := 0, ground := Ground.phase }, { on := 1, ground := Ground.phase }, { on := 2, ground := Ground.textOnly Departure.lateStores }, { on := 3, ground := Ground.textOnly Departure.lateStores }], guard := none }) (v := ?_) (by kernel_rfl) rfl (by rfl) (by kernel_rfl) (by kernel_rfl) (fun _ _ _ h => h) ?_ (by assumption) ?_
  rotate_left
  · (intro w hSw; (try dsimp only at hSw); go_simp; try with_reducible rfl)
  try simp only [Act.put, List.setIfInBounds_toArray, List.set_cons_zero, List.set_cons_succ]
  refine held_take 5 (oi := { dst := some 8, op := Op.assign (Operand.tmp 16), type := 22, pos := "law.go:54", after := #[{ on := 3, ground := Ground.data }, { on := 4, ground := Ground.chain }, { on := 0, ground := Ground.phase }, { on := 1, ground := Ground.phase }, { on := 2, ground := Ground.phase }, { on := 3, ground := Ground.phase }, { on := 4, ground := Ground.phase }], guard := none }) (v := ?_) (by kernel_rfl) rfl (by rfl) (by kernel_rfl) (by kernel_rfl) (fun _ _ _ h => h) ?_ (by assumption) ?_
  rotate_left
  · (intro w hSw; (try dsimp only at hSw); go_simp; try with_reducible rfl)
  try simp only [Act.put, List.setIfInBounds_toArray, List.set_cons_zero, List.set_cons_succ]
  refine wpAnyH_done (by kernel_rfl) ?_ _
  have F1 := hide (show Below w1.heap.size w1 w1.drew from (Below.refl _ _).drew)
  generalize w1.drew = w2 at *
  have X2 := hide (later_block (unhide F1) (unhide X1))
  have C2 := hide (later_block (unhide F1) (unhide C1))
  have c0 := box_cell (unhide X2) 0 _ rfl
  have c1 := box_cell (unhide X2) 1 _ rfl
  have e0 := box_cell (unhide C2) 0 _ rfl
  have e1 := box_cell (unhide C2) 1 _ rfl
  clear d0 d1
  have LIVE := hide (show ∀ W W' : World, Below w1.heap.size w1 W → Below W.heap.size W W' → Below D w W' from fun W W' h k => (unhide b1).trans ((h.trans (k.mono h.size)).mono (by have := (unhide b1).size; omega)))
  go_wp2_with fail
  refine (apply_calls ((unhide V).later (unhide F1)) ((unhide L).later (unhide F1)) vn ln (unhide VN) (unhide LN) hvx hlx t1 u1 (unhide U64)).mono ?_
  rintro e w3 ⟨hres, b3⟩
  have F3 := hide ((unhide F1).trans (b3.mono (unhide F1).size))
  have S3 := hide b3.size
  clear c0 c1 e0 e1 b3
  rcases hres with ⟨hne, rfl⟩ | ⟨hz, hr, hm, spA, nA, cA, spB, nB, cB', rfl, hnA, hnB, oA, oB, _⟩
  · generalize applyE vs0 ls0 t1 u1 = er at *
    have F4 := hide ((unhide F3).trans (((Below.refl _ _).alloc (Nat.le_refl _) (mB none 0 0 none 0 0)).mono (unhide F3).size))
    go_wp2_with fail
    generalize w3.alloc (mB none 0 0 none 0 0) = w4 at *
    refine (live3_calls _).mono ?_
    rintro e w5 ⟨rfl, b5⟩
    have F5 := hide (unhide LIVE _ _ (unhide F4) b5)
    clear b5
    go_wp2
    go_ret
    exact ⟨rfl, by first | exact unhide F5 | (rw [hD]; exact unhide F5)⟩
  · have MT := hide (show quorumM vs0 ls0 vs2 = true → quorumM (votersTo vs0 ls0 u1 (turnedM (kindM vs0 ls0 u1) t1 vs0.length).1) (learnersTo vs0 ls0 u1 (turnedM (kindM vs0 ls0 u1) t1 vs0.length).1) ls2 = true → ∃ x ∈ vs0, x ∈ votersTo vs0 ls0 u1 (turnedM (kindM vs0 ls0 u1) t1 vs0.length).1 ∧ x ∈ vs2 ∧ x ∈ ls2 from fun h1 h2 => meets_pure hr h1 h2)
    have LA := hide (show nA ≤ maxLen by rw [← hnA]; have := voters_len (v := vs0) (l := ls0) (n := u1) (k := (turnedM (kindM vs0 ls0 u1) t1 vs0.length).1); simp only [maxLen]; omega)
    have LB := hide (show nB ≤ maxLen by rw [← hnB]; have := learners_len (v := vs0) (l := ls0) (n := u1) (k := (turnedM (kindM vs0 ls0 u1) t1 vs0.length).1); simp only [maxLen]; omega)
    generalize votersTo vs0 ls0 u1 (turnedM (kindM vs0 ls0 u1) t1 vs0.length).1 = v' at *
    generalize learnersTo vs0 ls0 u1 (turnedM (kindM vs0 ls0 u1) t1 vs0.length).1 = l' at *
    have NA' := hide hnA
    have NB' := hide hnB
    have HR := hide hr
    have b4 := hide (show Below w3.heap.size w3 (w3.alloc (mB spA nA cA spB nB cB')) from (Below.refl _ _).alloc (Nat.le_refl _) _)
    have Z4 := hide (heap_new w3 (mB spA nA cA spB nB cB'))
    have F4 := hide ((unhide F3).trans ((unhide b4).mono (unhide F3).size))
    have A4 := hide (oA.ints.later (unhide b4))
    have B4 := hide (oB.ints.later (unhide b4))
    have X4 := hide (later_block (unhide F4) (unhide X1))
    have c0 := box_cell (unhide X4) 0 _ rfl
    have c1 := box_cell (unhide X4) 1 _ rfl
    have z0 := box_cell (unhide Z4) 0 _ rfl
    have z1 := box_cell (unhide Z4) 1 _ rfl
    clear hnA hnB oA oB hz hm hr
    go_wp2_with fail
    generalize hX : w3.heap.size = X at *
    generalize w3.alloc (mB spA nA cA spB nB cB') = w4 at *
    refine (quorum_calls ((unhide V).later (unhide F4)) ((unhide L).later (unhide F4)) ((unhide PA).later (unhide F4)) vn ln na (unhide VN) (unhide LN) (unhide NA) hvx hlx hax).mono ?_
    rintro e w5 ⟨rfl, b5⟩
    have F5 := hide ((unhide F4).trans (b5.mono (unhide F4).size))
    have A5 := hide ((unhide A4).later b5)
    have B5 := hide ((unhide B4).later b5)
    have Z5 := hide (later_block b5 (unhide Z4))
    have G5 := hide b5
    clear b5 c0 c1 z0 z1
    cases hq1 : quorumM vs0 ls0 vs2
    · go_wp2_with fail
      refine (live3_calls _).mono ?_
      rintro e w6 ⟨rfl, b6⟩
      have F6 := hide (unhide LIVE _ _ (unhide F5) b6)
      clear b6
      go_wp2
      go_ret
      exact ⟨rfl, by first | exact unhide F6 | (rw [hD]; exact unhide F6)⟩
    · have z0 := box_cell (unhide Z5) 0 _ rfl
      have z1 := box_cell (unhide Z5) 1 _ rfl
      go_wp2_with fail
      refine (quorum_calls (unhide A5) (unhide B5) ((unhide PB).later (unhide F5)) nA nB nb (unhide NA') (unhide NB') (unhide NB) (unhide LA) (unhide LB) hbx).mono ?_
      rintro e w6 ⟨rfl, b6⟩
      have F6 := hide ((unhide F5).trans (b6.mono (unhide F5).size))
      have A6 := hide ((unhide A5).later b6)
      have B6 := hide ((unhide B5).later b6)
      have Z6 := hide (later_block b6 (unhide Z5))
      clear b6 z0 z1
      cases hq2 : quorumM v' l' ls2
      · go_wp2_with fail
        refine (live3_calls _).mono ?_
        rintro e w7 ⟨rfl, b7⟩
        have F7 := hide (unhide LIVE _ _ (unhide F6) b7)
        clear b7
        go_wp2
        go_ret
        exact ⟨rfl, by first | exact unhide F7 | (rw [hD]; exact unhide F7)⟩
      · have EX := hide (unhide MT hq1 hq2)
        have hr' := quorum_right hq2
        go_wp2_with fail
        go_loopw [11] (fun i wr => ∃ (j : Nat), j ≤ vn ∧ i = .int .i64 (j : Int) ∧ Hid (∀ t, t < j → ∀ (ht : t < vs0.length), ¬ (vs0[t] ∈ v' ∧ vs0[t] ∈ vs2 ∧ vs0[t] ∈ ls2)) ∧ Hid (Below w6.heap.size w6 wr)) (fun i _ => vn - (intOf i).toNat)
        case atStart => exact ⟨0, by omega, rfl, fun t ht => by omega, Below.refl _ _⟩
        case round =>
          obtain ⟨j, hj, rfl, hno, G⟩ := hrel
          have FR := hide ((unhide F6).trans ((unhide G).mono (unhide F6).size))
          have XR := hide (later_block (unhide FR) (unhide X1))
          have c0 := box_cell (unhide XR) 0 _ rfl
          have c1 := box_cell (unhide XR) 1 _ rfl
          by_cases hjm : j < vn
          · have hjl : j < vs0.length := by rw [unhide VN]; exact hjm
            obtain ⟨b, off, rfl, p0⟩ := ((unhide V).later (unhide FR)).cell j hjl
            have ZR := hide (later_block (unhide G) (unhide Z6))
            have z0 := box_cell (unhide ZR) 0 _ rfl
            have z1 := box_cell (unhide ZR) 1 _ rfl
            have hj0 : (0 : Int) ≤ (j : Int) := by omega
            have hj1 : (j : Int) < (vn : Int) := by omega
            have ST := hide (show ¬ (vs0[j] ∈ v' ∧ vs0[j] ∈ vs2 ∧ vs0[j] ∈ ls2) → ∀ t, t < j + 1 → ∀ (ht : t < vs0.length), ¬ (vs0[t] ∈ v' ∧ vs0[t] ∈ vs2 ∧ vs0[t] ∈ ls2) from fun h t ht hl => by
              by_cases e : t = j
              · subst e; exact h
              · exact unhide hno t (by omega) hl)
            generalize vs0[j] = x at *
            go_wp2_with fail
            refine (voter_calls ((unhide A6).later (unhide G)) ((unhide B6).later (unhide G)) nA nB (unhide NA') (unhide NB') (unhide LA) (unhide LB) x).mono ?_
            rw [hr', Bool.true_and]
            rintro e w7 ⟨rfl, b7⟩
            have F7 := hide ((unhide FR).trans (b7.mono (unhide FR).size))
            have G7 := hide ((unhide G).trans (b7.mono (unhide G).size))
            clear b7
            by_cases h1 : x ∈ v'
            · rw [show decide (x ∈ v') = true by simp [h1]]
              go_wp2_with fail
              refine (in_calls ((unhide PA).later (unhide F7)) x na (unhide NA) hax).mono ?_
              rintro e w8 ⟨rfl, rfl⟩
              by_cases h2 : x ∈ vs2
              · rw [show decide (x ∈ vs2) = true by simp [h2]]
                go_wp2_with fail
                refine (in_calls ((unhide PB).later (unhide F7)) x nb (unhide NB) hbx).mono ?_
                rintro e w9 ⟨rfl, rfl⟩
                by_cases h3 : x ∈ ls2
                · rw [show decide (x ∈ ls2) = true by simp [h3]]
                  go_wp2_with fail
                  refine (live3_calls _).mono ?_
                  rintro e w10 ⟨rfl, b10⟩
                  have F10 := hide (unhide LIVE _ _ (unhide F7) b10)
                  clear b10
                  go_wp2
                  go_ret
                  exact ⟨rfl, by first | exact unhide F10 | (rw [hD]; exact unhide F10)⟩
                · rw [show decide (x ∈ ls2) = false by simp [h3]]
                  have R := hide (unhide ST (fun h => h3 h.2.2))
                  go_wp2
                  exact ⟨⟨j + 1, by omega, by go_num, unhide R, unhide G7⟩, by simp [intOf]; omega⟩
              · rw [show decide (x ∈ vs2) = false by simp [h2]]
                have R := hide (unhide ST (fun h => h2 h.2.1))
                go_wp2
                exact ⟨⟨j + 1, by omega, by go_num, unhide R, unhide G7⟩, by simp [intOf]; omega⟩
            · rw [show decide (x ∈ v') = false by simp [h1]]
              have R := hide (unhide ST (fun h => h1 h.1))
              go_wp2
              exact ⟨⟨j + 1, by omega, by go_num, unhide R, unhide G7⟩, by simp [intOf]; omega⟩
          · exfalso
            obtain ⟨x, hx, hx2⟩ := unhide EX
            obtain ⟨t, ht, rfl⟩ := List.getElem_of_mem hx
            exact unhide hno t (by have := unhide VN; omega) ht hx2

set_option maxRecDepth 100000 in
theorem lifted (os : Os) (started : os.Started) (H : Type) (enc : TypeId × Value → H) :
    ReturnsInHanded {} Try.checked os 7 .any (Rows.memberMeetsSpec.pre6 enc Try.prog Try.f7 Rows.memberMeetsRow.domain false) (Rows.memberMeetsSpec.post enc Try.prog Try.f7 false true false false) := by
  refine returnsInHanded_of_change_sized (C := Try.checked) own started (by kernel_rfl) Try.func7
    (ChangeSpec.witness6 (enc := enc) (C := Try.checked) false ⟨#[], #[.agg #[.slice none 0 0, .slice none 0 0], .agg #[.int .i64 0, .int .i64 0], .agg #[.slice none 0 0, .slice none 0 0]], []⟩ 8 (by kernel_rfl) (by kernel_rfl) (by kernel_rfl) (by kernel_rfl)) ?_
  intro W base args ds gs before hval0 hW hcnd hsz _
  have hval : ∀ (j : Nat) t v, Try.f7.params[j]? = some t → args[j]? = some v → Value.okWide Try.prog W .any base t v := hval0
  have hW' := hW
  obtain ⟨p, q, hA0, hV, rfl, hfz, hnd⟩ := hW
  have hA : DataW.TrodAll enc Try.prog W 0 (fun _ => true) true Try.f7.params.toList args.toList ds p := hA0
  rw [Try.params7] at hA hval
  obtain ⟨v0, vs0, d0, ds0, p0, q0, hargs, rfl, rfl, h0, r0⟩ := trodAll_cons hA
  obtain ⟨v1, vs1, d1, ds1, p1, q1, rfl, rfl, rfl, h1, r1⟩ := trodAll_cons r0
  obtain ⟨v2, vs2, d2, ds2, p2, q2, rfl, rfl, rfl, h2, r2⟩ := trodAll_cons r1
  obtain ⟨rfl, rfl, rfl⟩ := trodAll_nil r2
  obtain rfl : args = #[v0, v1, v2] := by cases args; simp_all
  obtain ⟨rfl, rfl⟩ := trodVars_none hV
  have k0 := h0
  have lt0 : ∀ x ∈ p0, x.block < W.heap.size := by obtain ⟨m, hm⟩ := k0; exact DataW.trod_lt m _ _ _ hm
  obtain ⟨va0, vc0, vs0, la0, lc0, ls0, rfl, hsv0, hV0, hzv0, hsl0, hL0, hzl0⟩ := open_membersS (hval 0 24 v0 rfl rfl) h0 (fun n hn => of_decide_eq_true (List.all_eq_true.1 hsz n (DataW.weights_mem_each (j := 0) (d := d0) rfl rfl n hn)))
  have k1 := h1
  have lt1 : ∀ x ∈ p1, x.block < W.heap.size := by obtain ⟨m, hm⟩ := k1; exact DataW.trod_lt m _ _ _ hm
  obtain ⟨t1, u1, rfl, bt1, bu1⟩ := open_change (hval 1 40 v1 rfl rfl) h1
  have k2 := h2
  have lt2 : ∀ x ∈ p2, x.block < W.heap.size := by obtain ⟨m, hm⟩ := k2; exact DataW.trod_lt m _ _ _ hm
  obtain ⟨va2, vc2, vs2, la2, lc2, ls2, rfl, hsv2, hV2, hzv2, hsl2, hL2, hzl2⟩ := open_listsS (hval 2 46 v2 rfl rfl) h2 (fun n hn => of_decide_eq_true (List.all_eq_true.1 hsz n (DataW.weights_mem_each (j := 2) (d := d2) rfl rfl n hn)))
  clear hA0 hval0
  refine (walk va0 vc0 vs0 la0 lc0 ls0 t1 u1 va2 vc2 vs2 la2 lc2 ls2 W hsv0 hV0 hzv0 hsl0 hL0 hzl0 bt1 bu1 hsv2 hV2 hzv2 hsl2 hL2 hzl2).mono fun e W' ⟨he, bel⟩ => ?_
  subst he
  exact ⟨_, rfl, _, _, _, [], _, [], hW', trodAll_mk1 (shut_bool Try.underlying4 _), (trodAll_cons_mk (Below.trod laidOut (by kernel_rfl) (of_decide_eq_true (by kernel_rfl)) k0 bel lt0) (trodAll_cons_mk (Below.trod laidOut (by kernel_rfl) (of_decide_eq_true (by kernel_rfl)) k1 bel lt1) (trodAll_cons_mk (Below.trod laidOut (by kernel_rfl) (of_decide_eq_true (by kernel_rfl)) k2 bel lt2) trodAll_mk0))), rfl, bel.frame _, fun h => by cases h⟩

theorem proved : Rows.MemberMeetsSaid :=
  OpenClaim.holds_of_wide 7 Try.f7 rfl rfl rfl rfl rfl rfl rfl ⟨rfl, rfl, rfl, rfl, rfl⟩ rfl rfl rfl rfl rfl (by kernel_rfl) Try.func7 (by kernel_rfl)
    (of_decide_eq_true (by kernel_rfl)) (by unfold Func.isWrapper; first | (rw [if_pos (by decide +kernel)]; kernel_rfl) | (rw [if_neg (by decide +kernel)]; exact ⟨rfl, rfl⟩))
    (fun os started H enc _ => lifted os started H enc)
end Go.Proofs.Ytnclkkoefejjiaa.memberMeets
namespace Go.Proofs.Ytnclkkoefejjiaa
theorem memberMeets_holds : Rows.MemberMeetsSaid := memberMeets.proved
#print axioms memberMeets_holds
end Go.Proofs.Ytnclkkoefejjiaa
