/- Snapshots: SnapSaves' walk (written by wip/mkssv.py). -/
import Derived.Test.YtagncghpfdjkmaaGreatDoorB39
import Derived.Test.YtagncghpfdjkmaaGreatDoorB40
namespace Go.Proofs.YtagncghpfdjkmaaGreatDoor.snapSaves
open Go.ChangeShapes Go.WideShapes Go.ChangeAt Go.RowKit
set_option linter.unusedVariables false
set_option maxRecDepth 20000 in
set_option maxHeartbeats 40000000 in
theorem walk0 (z : Int) (a : Option Addr) (c : Nat) (es : List Se) (w : World) (hz : -9223372036854775808 ≤ z ∧ z ≤ 9223372036854775807) (hx : es.length ≤ maxLen) (hD : SesAt w a es) (hTz : Tz w) :
    Calls Tryz.prog 8 #[.int .i64 z, .slice a es.length c] w fun e w' => e = .returned (.bool true) ∧ Below w.heap.size w w' := by
  have TZ := hide hTz
  have HD := hide hD
  have NC := hide (anew_calls w z)
  simp only [maxLen] at hx
  clear hD hTz
  generalize hn : es.length = n at *
  have HN := hide hn
  clear hn
  go_enter Tryz.func8, Tryz.ntmps8
  go_wp2_with fail
  go_at_call 22
  refine (unhide NC).mono ?_
  rintro e V1 ⟨d, M, rfl, d1, v1⟩
  have D1 := hide d1
  have U1 := hide v1
  have RC := hide (rnew_calls (base := 0) V1 (Nat.zero_le _) z)
  clear d1 v1 NC
  go_wp2_with fail
  go_at_call 23
  refine (unhide RC).mono ?_
  rintro e V2 ⟨rfl, r2, v2⟩
  have TT0 := hide (TD.new (unhide D1) r2 rfl v2)
  have BB0 := hide ((unhide U1).trans (v2.mono (unhide U1).size))
  have TZX := hide (show ∀ V, Below w.heap.size w V → Tz V from fun V u => (unhide TZ).later u)
  have LSX := hide (show ∀ V, Below w.heap.size w V → w.heap.size ≤ V.heap.size from fun V u => u.size)
  have SEX := hide (show ∀ V, Below w.heap.size w V → ∀ e h, SeAt w e h → SeAt V e h from fun V u e h q => q.later u)
  have CLX := hide (show ∀ V, Below w.heap.size w V → ∀ (ad : Addr) v, w.cell? ad = some v → V.cell? ad = some v from fun V u ad v h => cell_later u h)
  have TZ0 := hide (show ∀ V, Below w.heap.size w V → ∃ w0 : World, w0.heap.size = w.heap.size ∧ Tz w0 ∧ Below w.heap.size w0 V from fun V u => ⟨w, rfl, unhide TZ, u⟩)
  have KLX := hide (show ∀ kp ks, IntsAt w kp ks → ∀ b off, kp = some ⟨b, off, none⟩ → 0 < ks.length → b < w.heap.size from fun kp ks h b off e h0 => by
    obtain ⟨b', off', e', hc⟩ := h.cell 0 h0
    rw [e] at e'
    cases e'
    exact cell_lt hc)
  have PBX := hide (show ∀ p l, BytesAt w p l → ∀ b off, p = some ⟨b, off, none⟩ → 0 < l.length → b < w.heap.size from fun p l h b off e h0 => by
    obtain ⟨b', off', e', hc⟩ := h.cell 0 h0
    rw [e] at e'
    cases e'
    exact cell_lt hc)
  generalize hGG : w.heap.size = G at *
  have HGG := hide hGG
  generalize V1.heap.size = R at *
  generalize z.toNat = room at *
  clear hGG r2 v2 D1 U1 RC
  go_wp2_with fail
  go_loopw [7] (fun i wr => ∃ (j N : Nat) (ss : Ds), j ≤ n ∧ j ≤ 40 ∧ i = .int .i64 (j : Int) ∧ N ≤ j ∧ Hid (TD (fun _ => False) G wr d M R room N ss ss) ∧ Hid (Below G w wr)) (fun i _ => n - (intOf i).toNat)
  case atStart => exact ⟨0, 0, [], by omega, by omega, rfl, by omega, TT0, BB0⟩
  case round =>
    obtain ⟨j, N, ss, hj, hj4, rfl, hN, TT, BB⟩ := hrel
    clear TT0 BB0
    by_cases hjn : j < n
    · by_cases hj40 : j < 40
      · have y0 : (0 : Int) ≤ (j : Int) := by omega
        have y1 : (j : Int) < (n : Int) := by omega
        have y2 : (j : Int) < 40 := by omega
        have hjl : j < es.length := by rw [unhide HN]; exact hjn
        obtain ⟨b, off, h, ha, hcells, hse⟩ := (unhide HD).cell j hjl
        subst ha
        generalize es[j] = x at *
        obtain ⟨kd, S, nm, ks⟩ := x
        obtain ⟨sh, kp, kc⟩ := h
        have HSE := hide hse
        have hdc := hse.at_.dn
        have hdm := hse.at_.dm
        simp only [maxLen] at hdm
        dsimp only at hdc hdm
        have p0 := unhide CLX _ (unhide BB) _ _ (show w.cell? ⟨b, off + j * 8, none⟩ = some (.int .i64 kd) from hcells 0 _ rfl)
        have p1 := unhide CLX _ (unhide BB) _ _ (show w.cell? ⟨b, off + j * 8 + 1, none⟩ = some (.int .i64 S.i) from hcells 1 _ rfl)
        have p2 := unhide CLX _ (unhide BB) _ _ (show w.cell? ⟨b, off + j * 8 + 2, none⟩ = some (.int .i64 S.t) from hcells 2 _ rfl)
        have p3 := unhide CLX _ (unhide BB) _ _ (show w.cell? ⟨b, off + j * 8 + 3, none⟩ = some (.slice sh.va S.v.length sh.vc) from hcells 3 _ rfl)
        have p4 := unhide CLX _ (unhide BB) _ _ (show w.cell? ⟨b, off + j * 8 + 4, none⟩ = some (.slice sh.la S.l.length sh.lc) from hcells 4 _ rfl)
        have p5 := unhide CLX _ (unhide BB) _ _ (show w.cell? ⟨b, off + j * 8 + 5, none⟩ = some (.slice sh.dp S.d.length sh.dc) from hcells 5 _ rfl)
        have p6 := unhide CLX _ (unhide BB) _ _ (show w.cell? ⟨b, off + j * 8 + 6, none⟩ = some (.string nm) from hcells 6 _ rfl)
        have p7 := unhide CLX _ (unhide BB) _ _ (show w.cell? ⟨b, off + j * 8 + 7, none⟩ = some (.slice kp ks.length kc) from hcells 7 _ rfl)
        generalize hdn : S.d.length = dn at *
        generalize hkn : ks.length = kn at *
        have HDN := hide hdn
        have HKN := hide hkn
        clear hcells hse hdn hkn
        have A1 := hide (show Below wr.heap.size wr (wr.alloc (.cells #[.int .i64 kd, .int .i64 S.i, .int .i64 S.t, .slice sh.va S.v.length sh.vc, .slice sh.la S.l.length sh.lc, .slice sh.dp dn sh.dc, .string nm, .slice kp kn kc] 50)) from (Below.refl _ _).alloc (Nat.le_refl _) _)
        have X1 := hide (heap_new wr (.cells #[.int .i64 kd, .int .i64 S.i, .int .i64 S.t, .slice sh.va S.v.length sh.vc, .slice sh.la S.l.length sh.lc, .slice sh.dp dn sh.dc, .string nm, .slice kp kn kc] 50))
        have BB1 := hide ((unhide BB).trans ((unhide A1).mono (unhide LSX _ (unhide BB))))
        have TT1 := hide ((unhide TT).later (unhide A1))
        have XL := hide (show wr.heap.size < (wr.alloc (.cells #[.int .i64 kd, .int .i64 S.i, .int .i64 S.t, .slice sh.va S.v.length sh.vc, .slice sh.la S.l.length sh.lc, .slice sh.dp dn sh.dc, .string nm, .slice kp kn kc] 50)).heap.size by simp)
        have TM := hide (((unhide TT).more (unhide A1)).sub (Cv := fun g => g = wr.heap.size) (fun g hg => .inr ⟨by omega, by have := unhide XL; omega⟩))
        have x0 := box_cell (unhide X1) 0 _ rfl
        have x1 := box_cell (unhide X1) 1 _ rfl
        have x2 := box_cell (unhide X1) 2 _ rfl
        have x3 := box_cell (unhide X1) 3 _ rfl
        have x4 := box_cell (unhide X1) 4 _ rfl
        have x5 := box_cell (unhide X1) 5 _ rfl
        have x6 := box_cell (unhide X1) 6 _ rfl
        have x7 := box_cell (unhide X1) 7 _ rfl
        by_cases hd4 : 4000 < dn
        · as_aux_lemma =>
          have y3 : (4000 : Int) < (dn : Int) := by omega
          go_wp2_with fail
          exact ⟨⟨j + 1, N, ss, by omega, by omega, by go_num, by omega, TT1, BB1⟩, by simp [intOf]; omega⟩
        by_cases hk5 : 50 < kn
        · as_aux_lemma =>
          have y3 : ¬ (4000 : Int) < (dn : Int) := by omega
          have y4 : (50 : Int) < (kn : Int) := by omega
          go_wp2_with fail
          exact ⟨⟨j + 1, N, ss, by omega, by omega, by go_num, by omega, TT1, BB1⟩, by simp [intOf]; omega⟩
        have y3 : ¬ (4000 : Int) < (dn : Int) := by omega
        have y4 : ¬ (50 : Int) < (kn : Int) := by omega
        have FEW := hide (show FewC 300 ss from fun x hx => Nat.le_trans ((unhide TT).fewC x hx) (by omega))
        have NMO := hide (unhide TT).nmOk
        by_cases k0 : kd = 0
        · as_aux_lemma =>
          subst k0
          go_wp2_with fail
          generalize wr.alloc _ = W1 at *
          generalize hE1 : wr.heap.size = E1 at *
          have HE1 := hide hE1
          clear hE1 x0 x1 x2 x3 x4 x5 x6 x7 p0 p1 p2 p3 p4 p5 p6 p7
          have TT := hide ((unhide TM).later ((Below.refl _ _).drew : Below W1.heap.size W1 W1.drew))
          have BB := hide ((unhide BB1).drew)
          have XB := hide (show W1.drew.heap[E1]? = _ from unhide X1)
          clear BB1 TT1 TM
          refine wp_region_held_drew (S := fun u => u.cell? ⟨E1, 1, none⟩ = some (.int .i64 S.i) ∧ u.cell? ⟨E1, 2, none⟩ = some (.int .i64 S.t) ∧ u.cell? ⟨E1, 3, none⟩ = some (.slice sh.va S.v.length sh.vc) ∧ u.cell? ⟨E1, 4, none⟩ = some (.slice sh.la S.l.length sh.lc) ∧ u.cell? ⟨E1, 5, none⟩ = some (.slice sh.dp dn sh.dc)) (by kernel_rfl) ?_ (fun hHeld => ?_)
          · try dsimp only
            exact ⟨box_cell (unhide XB) 1 _ rfl, box_cell (unhide XB) 2 _ rfl, box_cell (unhide XB) 3 _ rfl, box_cell (unhide XB) 4 _ rfl, box_cell (unhide XB) 5 _ rfl⟩
          refine held_take 0 (oi := { dst := some 48, op := Op.move (Operand.tmp 5), type := 45, pos := "law.go:101", after := #[], guard := none }) (v := ?_) (by kernel_rfl) rfl (by rfl) (by kernel_rfl) (by kernel_rfl) (fun _ _ _ h => h) ?_ (by assumption) ?_
          rotate_left
          · (intro w hSw; (try dsimp only at hSw); go_simp; try with_reducible rfl)
          try simp only [Act.put, List.setIfInBounds_toArray, List.set_cons_zero, List.set_cons_succ]
          refine held_take 1 (oi := { dst := some 49, op := Op.fieldAddr 50 (Operand.tmp 8) 1, type := 0, pos := "law.go:101", after := #[], guard := none }) (v := ?_) (by kernel_rfl) rfl (by rfl) (by kernel_rfl) (by kernel_rfl) (fun _ _ _ h => h) ?_ (by assumption) ?_
          rotate_left
          · (intro w hSw; (try dsimp only at hSw); go_simp; try with_reducible rfl)
          try simp only [Act.put, List.setIfInBounds_toArray, List.set_cons_zero, List.set_cons_succ]
          refine held_take 2 (oi := { dst := some 50, op := Op.load 29 (Operand.tmp 49), type := 29, pos := "law.go:101", after := #[{ on := 1, ground := Ground.data }], guard := none }) (v := ?_) (by kernel_rfl) rfl (by rfl) (by kernel_rfl) (by kernel_rfl) (fun _ _ _ h => h) ?_ (by assumption) ?_
          rotate_left
          · (intro w hSw; (try dsimp only at hSw); go_simp; try with_reducible rfl)
          try simp only [Act.put, List.setIfInBounds_toArray, List.set_cons_zero, List.set_cons_succ]
          refine held_take 4 (oi := { dst := some 52, op := Op.move (Operand.tmp 6), type := 47, pos := "law.go:101", after := #[], guard := none }) (v := ?_) (by kernel_rfl) rfl (by rfl) (by kernel_rfl) (by kernel_rfl) (fun _ _ _ h => h) ?_ (by assumption) ?_
          rotate_left
          · (intro w hSw; (try dsimp only at hSw); go_simp; try with_reducible rfl)
          try simp only [Act.put, List.setIfInBounds_toArray, List.set_cons_zero, List.set_cons_succ]
          refine held_take 5 (oi := { dst := some 53, op := Op.fieldAddr 50 (Operand.tmp 8) 1, type := 0, pos := "law.go:101", after := #[], guard := none }) (v := ?_) (by kernel_rfl) rfl (by rfl) (by kernel_rfl) (by kernel_rfl) (fun _ _ _ h => h) ?_ (by assumption) ?_
          rotate_left
          · (intro w hSw; (try dsimp only at hSw); go_simp; try with_reducible rfl)
          try simp only [Act.put, List.setIfInBounds_toArray, List.set_cons_zero, List.set_cons_succ]
          refine held_take 6 (oi := { dst := some 54, op := Op.load 29 (Operand.tmp 53), type := 29, pos := "law.go:101", after := #[{ on := 5, ground := Ground.data }], guard := none }) (v := ?_) (by kernel_rfl) rfl (by rfl) (by kernel_rfl) (by kernel_rfl) (fun _ _ _ h => h) ?_ (by assumption) ?_
          rotate_left
          · (intro w hSw; (try dsimp only at hSw); go_simp; try with_reducible rfl)
          try simp only [Act.put, List.setIfInBounds_toArray, List.set_cons_zero, List.set_cons_succ]
          refine wpAnyH_ready (rs := [3]) (by kernel_rfl) (by simp) ?_
          refine AllReadyH.cons (o := { dst := some 51, op := Op.call { callee := Callee.value (Operand.func 24), args := #[Operand.tmp 48, Operand.tmp 50], argTypes := #[45, 29] }, type := 31, pos := "law.go:101", after := #[{ on := 0, ground := Ground.data }, { on := 2, ground := Ground.data }], guard := none }) rfl (fun K hK => ?_) ?_
          · go_simp
            first | rw [← unhide HDN] | skip
            refine (tsave_calls (unhide TT) (by omega) (unhide TZ0 _ (unhide BB)) S sh (unhide SEX _ (unhide BB) _ _ (unhide HSE)).at_).mono ?_
            rintro e W4 ⟨rfl, t4, a4⟩
            have XB := hide ((a4.av _ rfl).trans (unhide XB))
            have TT := hide t4
            have BB := hide ((unhide BB).trans a4.bel)
            clear t4 a4
            go_wp2_with fail
            refine hK.out _ _ ?_ (fun hHeld => ?_)
            · try dsimp only
              exact ⟨box_cell (unhide XB) 1 _ rfl, box_cell (unhide XB) 2 _ rfl, box_cell (unhide XB) 3 _ rfl, box_cell (unhide XB) 4 _ rfl, box_cell (unhide XB) 5 _ rfl⟩
            clear hK K
            try simp only [Act.put, List.setIfInBounds_toArray, List.set_cons_zero, List.set_cons_succ]
            refine wpAnyH_ready (rs := [7]) (by kernel_rfl) (by simp) ?_
            refine AllReadyH.cons (o := { dst := some 55, op := Op.call { callee := Callee.value (Operand.func 25), args := #[Operand.tmp 52, Operand.tmp 54], argTypes := #[47, 29] }, type := 31, pos := "law.go:101", after := #[{ on := 4, ground := Ground.data }, { on := 6, ground := Ground.data }, { on := 3, ground := Ground.chain }], guard := none }) rfl (fun K hK => ?_) ?_
            · go_simp
              first | rw [← unhide HDN] | skip
              refine (trsave_calls (unhide TT) (unhide FEW) (unhide NMO) S sh (unhide SEX _ (unhide BB) _ _ (unhide HSE)).at_).mono ?_
              rintro e W4 ⟨rfl, t4, a4⟩
              have XB := hide ((a4.av _ rfl).trans (unhide XB))
              have TT := hide t4
              have BB := hide ((unhide BB).trans a4.bel)
              clear t4 a4
              go_wp2_with fail
              refine hK.out _ _ ?_ (fun hHeld => ?_)
              · try dsimp only
                exact ⟨box_cell (unhide XB) 1 _ rfl, box_cell (unhide XB) 2 _ rfl, box_cell (unhide XB) 3 _ rfl, box_cell (unhide XB) 4 _ rfl, box_cell (unhide XB) 5 _ rfl⟩
              clear hK K
              try simp only [Act.put, List.setIfInBounds_toArray, List.set_cons_zero, List.set_cons_succ]
              refine held_take 8 (oi := { dst := some 56, op := Op.binOp BinOp.neq 31 (Operand.tmp 51) (Operand.tmp 55) 31, type := 4, pos := "law.go:101", after := #[{ on := 3, ground := Ground.data }, { on := 7, ground := Ground.data }], guard := none }) (v := ?_) (by kernel_rfl) rfl (by rfl) (by kernel_rfl) (by kernel_rfl) (fun _ _ _ h => h) ?_ (by assumption) ?_
              rotate_left
              · (intro w hSw; (try dsimp only at hSw); go_simp; try with_reducible rfl)
              try simp only [Act.put, List.setIfInBounds_toArray, List.set_cons_zero, List.set_cons_succ]
              refine wpAnyH_done (by kernel_rfl) ?_ _
              generalize (((sSave room S ss).1 : Nat) : Int) = si at *
              have y5 : (si != si) = false := by simp
              have TT := hide ((unhide TT).sub (Cv := fun _ => False) (fun g hg => hg.elim))
              clear XB
              go_wp2_with fail
              obtain ⟨uu, huu⟩ : ∃ uu, (sSave room S ss).2 = uu := ⟨_, rfl⟩
              rw [huu] at TT
              clear huu
              have LC := hide (tload_calls (unhide TT) (unhide TZX _ (unhide BB)))
              go_at_call 30
              refine (unhide LC).mono ?_
              rintro e V5 ⟨h5, rfl, s5, v5⟩
              generalize hsl : sLoad uu = sl at *
              have HSL := hide hsl
              clear hsl LC
              obtain ⟨q, hq⟩ : ∃ q, sl.getD sn0 = q := ⟨_, rfl⟩
              obtain ⟨ei, hei⟩ : ∃ ei : Int, (if sl.isSome = true then (0 : Int) else 8) = ei := ⟨_, rfl⟩
              rw [hq] at s5
              rw [hq, hei]
              have HQ := hide hq
              have HEI := hide hei
              clear hq hei
              unfold snRow
              have TT := hide ((unhide TT).later v5)
              have BB := hide ((unhide BB).trans (v5.mono (unhide LSX _ (unhide BB))))
              have S5 := hide s5
              have A5 := hide (show Below V5.heap.size V5 (V5.alloc (.cells #[.int .i64 q.i, .int .i64 q.t, .slice h5.va q.v.length h5.vc, .slice h5.la q.l.length h5.lc, .slice h5.dp q.d.length h5.dc] 29)) from (Below.refl _ _).alloc (Nat.le_refl _) _)
              have X5 := hide (heap_new V5 (.cells #[.int .i64 q.i, .int .i64 q.t, .slice h5.va q.v.length h5.vc, .slice h5.la q.l.length h5.lc, .slice h5.dp q.d.length h5.dc] 29))
              have TT := hide ((unhide TT).later (unhide A5))
              have BB := hide ((unhide BB).trans ((unhide A5).mono (unhide LSX _ (unhide BB))))
              have S5 := hide ((unhide S5).later (unhide A5))
              have RC := hide (trload_calls (unhide TT) (unhide TT).nmOk)
              rw [unhide HSL] at RC
              clear s5 v5
              go_wp2_with fail
              generalize V5.alloc _ = W5 at *
              generalize V5.heap.size = E5 at *
              go_at_call 31
              refine (unhide RC).mono ?_
              rintro e V6 ⟨h6, rfl, s6, v6⟩
              rw [unhide HQ] at s6
              rw [unhide HQ, unhide HEI]
              unfold snRow
              have EIQ := hide (rfl : ei = ei)
              clear RC
              have TT := hide ((unhide TT).later v6)
              have BB := hide ((unhide BB).trans (v6.mono (unhide LSX _ (unhide BB))))
              have S5 := hide ((unhide S5).later v6)
              have S6 := hide s6
              have X5 := hide (later_block v6 (unhide X5))
              have A6 := hide (show Below V6.heap.size V6 (V6.alloc (.cells #[.int .i64 q.i, .int .i64 q.t, .slice h6.va q.v.length h6.vc, .slice h6.la q.l.length h6.lc, .slice h6.dp q.d.length h6.dc] 29)) from (Below.refl _ _).alloc (Nat.le_refl _) _)
              have X6 := hide (heap_new V6 (.cells #[.int .i64 q.i, .int .i64 q.t, .slice h6.va q.v.length h6.vc, .slice h6.la q.l.length h6.lc, .slice h6.dp q.d.length h6.dc] 29))
              have TT := hide ((unhide TT).later (unhide A6))
              have BB := hide ((unhide BB).trans ((unhide A6).mono (unhide LSX _ (unhide BB))))
              have S5 := hide ((unhide S5).later (unhide A6))
              have S6 := hide ((unhide S6).later (unhide A6))
              have X5 := hide (later_block (unhide A6) (unhide X5))
              have SC := hide (sameS_yes q h5 h6 _ (unhide S5) (unhide S6))
              unfold snRow at SC
              clear s6 v6
              have b0 := box_cell (unhide X5) 0 _ rfl
              have b1 := box_cell (unhide X5) 1 _ rfl
              have b2 := box_cell (unhide X5) 2 _ rfl
              have b3 := box_cell (unhide X5) 3 _ rfl
              have b4 := box_cell (unhide X5) 4 _ rfl
              have c0 := box_cell (unhide X6) 0 _ rfl
              have c1 := box_cell (unhide X6) 1 _ rfl
              have c2 := box_cell (unhide X6) 2 _ rfl
              have c3 := box_cell (unhide X6) 3 _ rfl
              have c4 := box_cell (unhide X6) 4 _ rfl
              have y9 : (ei != ei) = false := by simp
              go_wp2_with fail
              clear b0 b1 b2 b3 b4 c0 c1 c2 c3 c4
              generalize V6.alloc _ = W6 at *
              generalize V6.heap.size = E6 at *
              go_at_call 18
              refine (unhide SC).mono ?_
              rintro e V7 ⟨rfl, v7⟩
              have TT := hide ((unhide TT).later v7)
              have BB := hide ((unhide BB).trans (v7.mono (unhide LSX _ (unhide BB))))
              have NC := hide (tnames_calls (unhide TT))
              clear v7 SC
              go_wp2_with fail
              go_at_call 33
              refine (unhide NC).mono ?_
              rintro e V8 ⟨np, nn, nc, rfl, hnn, ho, v8⟩
              have ON := hide ho
              have HNN := hide hnn
              have TT := hide ((unhide TT).later v8)
              have BB := hide ((unhide BB).trans (v8.mono (unhide LSX _ (unhide BB))))
              have NC2 := hide (trnames_calls (unhide TT))
              clear ho hnn v8 NC
              go_wp2_with fail
              go_at_call 34
              refine (unhide NC2).mono ?_
              rintro e V9 ⟨mp, mm, mc, rfl, hmm, ho2, v9⟩
              have e9 : nn = mm := (unhide HNN).symm.trans hmm
              subst e9
              have ON := hide ((unhide ON).later v9)
              have OM := hide ho2
              have TT := hide ((unhide TT).later v9)
              have BB := hide ((unhide BB).trans (v9.mono (unhide LSX _ (unhide BB))))
              have TC := hide (sameTexts_yes _ _ V9 (uu.map (·.1)) nn (by rw [List.length_map]; exact unhide HNN) (by have h1 := (unhide TT).lenS; have h2 := unhide HNN; omega) np mp nc mc (unhide ON) (unhide OM))
              clear ho2 hmm v9 NC2
              go_wp2_with fail
              go_at_call 32
              refine (unhide TC).mono ?_
              rintro e V10 ⟨rfl, v10⟩
              have TT := hide ((unhide TT).later v10)
              have BB := hide ((unhide BB).trans (v10.mono (unhide LSX _ (unhide BB))))
              have UC := hide (tused_calls (unhide TT))
              clear v10 TC
              go_wp2_with fail
              go_at_call 35
              refine (unhide UC).mono ?_
              rintro e V11 ⟨rfl, v11⟩
              have TT := hide ((unhide TT).later v11)
              have BB := hide ((unhide BB).trans (v11.mono (unhide LSX _ (unhide BB))))
              have UC2 := hide (trused_calls (unhide TT))
              clear v11 UC
              go_wp2_with fail
              go_at_call 36
              refine (unhide UC2).mono ?_
              rintro e V12 ⟨rfl, v12⟩
              have TT := hide ((unhide TT).later v12)
              have BB := hide ((unhide BB).trans (v12.mono (unhide LSX _ (unhide BB))))
              clear v12 UC2
              generalize ((usedS uu : Nat) : Int) = ui at *
              have y8 : (ui != ui) = false := by simp
              go_wp2
              exact ⟨⟨j + 1, N + 1, uu, by omega, by omega, by go_num, by omega, TT, BB⟩, by simp [intOf]; omega⟩
            exact AllReadyH.nil
          exact AllReadyH.nil
        have k0a : (kd == 0) = false := by simp [k0]
        by_cases k1 : kd = 1
        · as_aux_lemma =>
          subst k1
          have CC := hide (tcrash_calls (unhide TM) kp kn kc ks (unhide HKN) (unhide SEX _ (unhide BB1) _ _ (unhide HSE)).ks (unhide KLX kp ks (unhide HSE).ks))
          go_wp2_with fail
          generalize wr.alloc _ = W1 at *
          generalize hE1 : wr.heap.size = E1 at *
          have HE1 := hide hE1
          clear hE1 x0 x1 x2 x3 x4 x5 x6 x7 p0 p1 p2 p3 p4 p5 p6 p7
          go_at_call 26
          refine (unhide CC).mono ?_
          rintro e W4 ⟨rfl, t4, a4⟩
          have XB := hide ((a4.av _ rfl).trans (unhide X1))
          have BB := hide ((unhide BB1).trans a4.bel)
          have CC := hide (trcrash_calls t4 kp kn kc ks (unhide HKN) (unhide SEX _ (unhide BB) _ _ (unhide HSE)).ks)
          have x7 := box_cell (unhide XB) 7 _ rfl
          clear t4 a4 BB1 TT1 TM
          go_wp2_with fail
          go_at_call 27
          refine (unhide CC).mono ?_
          rintro e W5 ⟨rfl, t5, a5⟩
          have TT := hide (t5.sub (Cv := fun _ => False) (fun g hg => hg.elim))
          have BB := hide ((unhide BB).trans a5.bel)
          clear t5 a5 CC x7 XB X1
          go_wp2_with fail
          obtain ⟨uu, huu⟩ : ∃ uu, crashS ks 0 ss = uu := ⟨_, rfl⟩
          rw [huu] at TT
          clear huu
          have LC := hide (tload_calls (unhide TT) (unhide TZX _ (unhide BB)))
          go_at_call 30
          refine (unhide LC).mono ?_
          rintro e V5 ⟨h5, rfl, s5, v5⟩
          generalize hsl : sLoad uu = sl at *
          have HSL := hide hsl
          clear hsl LC
          obtain ⟨q, hq⟩ : ∃ q, sl.getD sn0 = q := ⟨_, rfl⟩
          obtain ⟨ei, hei⟩ : ∃ ei : Int, (if sl.isSome = true then (0 : Int) else 8) = ei := ⟨_, rfl⟩
          rw [hq] at s5
          rw [hq, hei]
          have HQ := hide hq
          have HEI := hide hei
          clear hq hei
          unfold snRow
          have TT := hide ((unhide TT).later v5)
          have BB := hide ((unhide BB).trans (v5.mono (unhide LSX _ (unhide BB))))
          have S5 := hide s5
          have A5 := hide (show Below V5.heap.size V5 (V5.alloc (.cells #[.int .i64 q.i, .int .i64 q.t, .slice h5.va q.v.length h5.vc, .slice h5.la q.l.length h5.lc, .slice h5.dp q.d.length h5.dc] 29)) from (Below.refl _ _).alloc (Nat.le_refl _) _)
          have X5 := hide (heap_new V5 (.cells #[.int .i64 q.i, .int .i64 q.t, .slice h5.va q.v.length h5.vc, .slice h5.la q.l.length h5.lc, .slice h5.dp q.d.length h5.dc] 29))
          have TT := hide ((unhide TT).later (unhide A5))
          have BB := hide ((unhide BB).trans ((unhide A5).mono (unhide LSX _ (unhide BB))))
          have S5 := hide ((unhide S5).later (unhide A5))
          have RC := hide (trload_calls (unhide TT) (unhide TT).nmOk)
          rw [unhide HSL] at RC
          clear s5 v5
          go_wp2_with fail
          generalize V5.alloc _ = W5 at *
          generalize V5.heap.size = E5 at *
          go_at_call 31
          refine (unhide RC).mono ?_
          rintro e V6 ⟨h6, rfl, s6, v6⟩
          rw [unhide HQ] at s6
          rw [unhide HQ, unhide HEI]
          unfold snRow
          have EIQ := hide (rfl : ei = ei)
          clear RC
          have TT := hide ((unhide TT).later v6)
          have BB := hide ((unhide BB).trans (v6.mono (unhide LSX _ (unhide BB))))
          have S5 := hide ((unhide S5).later v6)
          have S6 := hide s6
          have X5 := hide (later_block v6 (unhide X5))
          have A6 := hide (show Below V6.heap.size V6 (V6.alloc (.cells #[.int .i64 q.i, .int .i64 q.t, .slice h6.va q.v.length h6.vc, .slice h6.la q.l.length h6.lc, .slice h6.dp q.d.length h6.dc] 29)) from (Below.refl _ _).alloc (Nat.le_refl _) _)
          have X6 := hide (heap_new V6 (.cells #[.int .i64 q.i, .int .i64 q.t, .slice h6.va q.v.length h6.vc, .slice h6.la q.l.length h6.lc, .slice h6.dp q.d.length h6.dc] 29))
          have TT := hide ((unhide TT).later (unhide A6))
          have BB := hide ((unhide BB).trans ((unhide A6).mono (unhide LSX _ (unhide BB))))
          have S5 := hide ((unhide S5).later (unhide A6))
          have S6 := hide ((unhide S6).later (unhide A6))
          have X5 := hide (later_block (unhide A6) (unhide X5))
          have SC := hide (sameS_yes q h5 h6 _ (unhide S5) (unhide S6))
          unfold snRow at SC
          clear s6 v6
          have b0 := box_cell (unhide X5) 0 _ rfl
          have b1 := box_cell (unhide X5) 1 _ rfl
          have b2 := box_cell (unhide X5) 2 _ rfl
          have b3 := box_cell (unhide X5) 3 _ rfl
          have b4 := box_cell (unhide X5) 4 _ rfl
          have c0 := box_cell (unhide X6) 0 _ rfl
          have c1 := box_cell (unhide X6) 1 _ rfl
          have c2 := box_cell (unhide X6) 2 _ rfl
          have c3 := box_cell (unhide X6) 3 _ rfl
          have c4 := box_cell (unhide X6) 4 _ rfl
          have y9 : (ei != ei) = false := by simp
          go_wp2_with fail
          clear b0 b1 b2 b3 b4 c0 c1 c2 c3 c4
          generalize V6.alloc _ = W6 at *
          generalize V6.heap.size = E6 at *
          go_at_call 18
          refine (unhide SC).mono ?_
          rintro e V7 ⟨rfl, v7⟩
          have TT := hide ((unhide TT).later v7)
          have BB := hide ((unhide BB).trans (v7.mono (unhide LSX _ (unhide BB))))
          have NC := hide (tnames_calls (unhide TT))
          clear v7 SC
          go_wp2_with fail
          go_at_call 33
          refine (unhide NC).mono ?_
          rintro e V8 ⟨np, nn, nc, rfl, hnn, ho, v8⟩
          have ON := hide ho
          have HNN := hide hnn
          have TT := hide ((unhide TT).later v8)
          have BB := hide ((unhide BB).trans (v8.mono (unhide LSX _ (unhide BB))))
          have NC2 := hide (trnames_calls (unhide TT))
          clear ho hnn v8 NC
          go_wp2_with fail
          go_at_call 34
          refine (unhide NC2).mono ?_
          rintro e V9 ⟨mp, mm, mc, rfl, hmm, ho2, v9⟩
          have e9 : nn = mm := (unhide HNN).symm.trans hmm
          subst e9
          have ON := hide ((unhide ON).later v9)
          have OM := hide ho2
          have TT := hide ((unhide TT).later v9)
          have BB := hide ((unhide BB).trans (v9.mono (unhide LSX _ (unhide BB))))
          have TC := hide (sameTexts_yes _ _ V9 (uu.map (·.1)) nn (by rw [List.length_map]; exact unhide HNN) (by have h1 := (unhide TT).lenS; have h2 := unhide HNN; omega) np mp nc mc (unhide ON) (unhide OM))
          clear ho2 hmm v9 NC2
          go_wp2_with fail
          go_at_call 32
          refine (unhide TC).mono ?_
          rintro e V10 ⟨rfl, v10⟩
          have TT := hide ((unhide TT).later v10)
          have BB := hide ((unhide BB).trans (v10.mono (unhide LSX _ (unhide BB))))
          have UC := hide (tused_calls (unhide TT))
          clear v10 TC
          go_wp2_with fail
          go_at_call 35
          refine (unhide UC).mono ?_
          rintro e V11 ⟨rfl, v11⟩
          have TT := hide ((unhide TT).later v11)
          have BB := hide ((unhide BB).trans (v11.mono (unhide LSX _ (unhide BB))))
          have UC2 := hide (trused_calls (unhide TT))
          clear v11 UC
          go_wp2_with fail
          go_at_call 36
          refine (unhide UC2).mono ?_
          rintro e V12 ⟨rfl, v12⟩
          have TT := hide ((unhide TT).later v12)
          have BB := hide ((unhide BB).trans (v12.mono (unhide LSX _ (unhide BB))))
          clear v12 UC2
          generalize ((usedS uu : Nat) : Int) = ui at *
          have y8 : (ui != ui) = false := by simp
          go_wp2
          exact ⟨⟨j + 1, N, uu, by omega, by omega, by go_num, by omega, TT, BB⟩, by simp [intOf]; omega⟩
        have k1a : (kd == 1) = false := by simp [k1]
        by_cases k2 : kd = 2
        · as_aux_lemma =>
          subst k2
          go_wp2_with fail
          generalize wr.alloc _ = W1 at *
          generalize hE1 : wr.heap.size = E1 at *
          have HE1 := hide hE1
          clear hE1 x0 x1 x2 x3 x4 x5 x6 x7 p0 p1 p2 p3 p4 p5 p6 p7
          have TT := hide ((unhide TM).later ((Below.refl _ _).drew : Below W1.heap.size W1 W1.drew))
          have BB := hide ((unhide BB1).drew)
          have XB := hide (show W1.drew.heap[E1]? = _ from unhide X1)
          clear BB1 TT1 TM
          refine wp_region_held_drew (S := fun u => u.cell? ⟨E1, 5, none⟩ = some (.slice sh.dp dn sh.dc) ∧ u.cell? ⟨E1, 6, none⟩ = some (.string nm)) (by kernel_rfl) ?_ (fun hHeld => ?_)
          · try dsimp only
            exact ⟨box_cell (unhide XB) 5 _ rfl, box_cell (unhide XB) 6 _ rfl⟩
          refine held_take 0 (oi := { dst := some 69, op := Op.move (Operand.tmp 5), type := 45, pos := "law.go:108", after := #[], guard := none }) (v := ?_) (by kernel_rfl) rfl (by rfl) (by kernel_rfl) (by kernel_rfl) (fun _ _ _ h => h) ?_ (by assumption) ?_
          rotate_left
          · (intro w hSw; (try dsimp only at hSw); go_simp; try with_reducible rfl)
          try simp only [Act.put, List.setIfInBounds_toArray, List.set_cons_zero, List.set_cons_succ]
          refine held_take 1 (oi := { dst := some 70, op := Op.fieldAddr 50 (Operand.tmp 8) 2, type := 0, pos := "law.go:108", after := #[], guard := none }) (v := ?_) (by kernel_rfl) rfl (by rfl) (by kernel_rfl) (by kernel_rfl) (fun _ _ _ h => h) ?_ (by assumption) ?_
          rotate_left
          · (intro w hSw; (try dsimp only at hSw); go_simp; try with_reducible rfl)
          try simp only [Act.put, List.setIfInBounds_toArray, List.set_cons_zero, List.set_cons_succ]
          refine held_take 2 (oi := { dst := some 71, op := Op.load 9 (Operand.tmp 70), type := 9, pos := "law.go:108", after := #[{ on := 1, ground := Ground.data }], guard := none }) (v := ?_) (by kernel_rfl) rfl (by rfl) (by kernel_rfl) (by kernel_rfl) (fun _ _ _ h => h) ?_ (by assumption) ?_
          rotate_left
          · (intro w hSw; (try dsimp only at hSw); go_simp; try with_reducible rfl)
          try simp only [Act.put, List.setIfInBounds_toArray, List.set_cons_zero, List.set_cons_succ]
          refine held_take 3 (oi := { dst := some 72, op := Op.fieldAddr 50 (Operand.tmp 8) 1, type := 0, pos := "law.go:108", after := #[], guard := none }) (v := ?_) (by kernel_rfl) rfl (by rfl) (by kernel_rfl) (by kernel_rfl) (fun _ _ _ h => h) ?_ (by assumption) ?_
          rotate_left
          · (intro w hSw; (try dsimp only at hSw); go_simp; try with_reducible rfl)
          try simp only [Act.put, List.setIfInBounds_toArray, List.set_cons_zero, List.set_cons_succ]
          refine held_take 4 (oi := { dst := some 73, op := Op.fieldAddr 29 (Operand.tmp 72) 2, type := 0, pos := "law.go:108", after := #[{ on := 3, ground := Ground.data }], guard := none }) (v := ?_) (by kernel_rfl) rfl (by rfl) (by kernel_rfl) (by kernel_rfl) (fun _ _ _ h => h) ?_ (by assumption) ?_
          rotate_left
          · (intro w hSw; (try dsimp only at hSw); go_simp; try with_reducible rfl)
          try simp only [Act.put, List.setIfInBounds_toArray, List.set_cons_zero, List.set_cons_succ]
          refine held_take 5 (oi := { dst := some 74, op := Op.load 27 (Operand.tmp 73), type := 27, pos := "law.go:108", after := #[{ on := 4, ground := Ground.data }], guard := none }) (v := ?_) (by kernel_rfl) rfl (by rfl) (by kernel_rfl) (by kernel_rfl) (fun _ _ _ h => h) ?_ (by assumption) ?_
          rotate_left
          · (intro w hSw; (try dsimp only at hSw); go_simp; try with_reducible rfl)
          try simp only [Act.put, List.setIfInBounds_toArray, List.set_cons_zero, List.set_cons_succ]
          refine held_take 7 (oi := { dst := some 76, op := Op.move (Operand.tmp 6), type := 47, pos := "law.go:108", after := #[], guard := none }) (v := ?_) (by kernel_rfl) rfl (by rfl) (by kernel_rfl) (by kernel_rfl) (fun _ _ _ h => h) ?_ (by assumption) ?_
          rotate_left
          · (intro w hSw; (try dsimp only at hSw); go_simp; try with_reducible rfl)
          try simp only [Act.put, List.setIfInBounds_toArray, List.set_cons_zero, List.set_cons_succ]
          refine held_take 8 (oi := { dst := some 77, op := Op.fieldAddr 50 (Operand.tmp 8) 2, type := 0, pos := "law.go:108", after := #[], guard := none }) (v := ?_) (by kernel_rfl) rfl (by rfl) (by kernel_rfl) (by kernel_rfl) (fun _ _ _ h => h) ?_ (by assumption) ?_
          rotate_left
          · (intro w hSw; (try dsimp only at hSw); go_simp; try with_reducible rfl)
          try simp only [Act.put, List.setIfInBounds_toArray, List.set_cons_zero, List.set_cons_succ]
          refine held_take 9 (oi := { dst := some 78, op := Op.load 9 (Operand.tmp 77), type := 9, pos := "law.go:108", after := #[{ on := 8, ground := Ground.data }], guard := none }) (v := ?_) (by kernel_rfl) rfl (by rfl) (by kernel_rfl) (by kernel_rfl) (fun _ _ _ h => h) ?_ (by assumption) ?_
          rotate_left
          · (intro w hSw; (try dsimp only at hSw); go_simp; try with_reducible rfl)
          try simp only [Act.put, List.setIfInBounds_toArray, List.set_cons_zero, List.set_cons_succ]
          refine held_take 10 (oi := { dst := some 79, op := Op.fieldAddr 50 (Operand.tmp 8) 1, type := 0, pos := "law.go:108", after := #[], guard := none }) (v := ?_) (by kernel_rfl) rfl (by rfl) (by kernel_rfl) (by kernel_rfl) (fun _ _ _ h => h) ?_ (by assumption) ?_
          rotate_left
          · (intro w hSw; (try dsimp only at hSw); go_simp; try with_reducible rfl)
          try simp only [Act.put, List.setIfInBounds_toArray, List.set_cons_zero, List.set_cons_succ]
          refine held_take 11 (oi := { dst := some 80, op := Op.fieldAddr 29 (Operand.tmp 79) 2, type := 0, pos := "law.go:108", after := #[{ on := 10, ground := Ground.data }], guard := none }) (v := ?_) (by kernel_rfl) rfl (by rfl) (by kernel_rfl) (by kernel_rfl) (fun _ _ _ h => h) ?_ (by assumption) ?_
          rotate_left
          · (intro w hSw; (try dsimp only at hSw); go_simp; try with_reducible rfl)
          try simp only [Act.put, List.setIfInBounds_toArray, List.set_cons_zero, List.set_cons_succ]
          refine held_take 12 (oi := { dst := some 81, op := Op.load 27 (Operand.tmp 80), type := 27, pos := "law.go:108", after := #[{ on := 11, ground := Ground.data }], guard := none }) (v := ?_) (by kernel_rfl) rfl (by rfl) (by kernel_rfl) (by kernel_rfl) (fun _ _ _ h => h) ?_ (by assumption) ?_
          rotate_left
          · (intro w hSw; (try dsimp only at hSw); go_simp; try with_reducible rfl)
          try simp only [Act.put, List.setIfInBounds_toArray, List.set_cons_zero, List.set_cons_succ]
          refine wpAnyH_ready (rs := [6]) (by kernel_rfl) (by simp) ?_
          refine AllReadyH.cons (o := { dst := some 75, op := Op.call { callee := Callee.value (Operand.func 28), args := #[Operand.tmp 69, Operand.tmp 71, Operand.const (Value.int IntKind.i64 0), Operand.tmp 74], argTypes := #[45, 9, 3, 27] }, type := 31, pos := "law.go:108", after := #[{ on := 0, ground := Ground.data }, { on := 2, ground := Ground.data }, { on := 5, ground := Ground.data }], guard := none }) rfl (fun K hK => ?_) ?_
          · go_simp
            refine (twrite_calls (unhide TT) (by omega) nm (unhide HSE).nm 0 (by decide) sh.dp dn sh.dc S.d (unhide HDN) (by omega) (unhide SEX _ (unhide BB) _ _ (unhide HSE)).at_.d (unhide HSE).at_.dz (fun b' off' e h0 => unhide PBX _ _ (unhide HSE).at_.d b' off' e (by have := unhide HDN; dsimp only; omega)) (by omega)).mono ?_
            rintro e W4 ⟨rfl, t4, a4⟩
            have XB := hide ((a4.av _ rfl).trans (unhide XB))
            have TT := hide t4
            have BB := hide ((unhide BB).trans a4.bel)
            clear t4 a4
            go_wp2_with fail
            refine hK.out _ _ ?_ (fun hHeld => ?_)
            · try dsimp only
              exact ⟨box_cell (unhide XB) 5 _ rfl, box_cell (unhide XB) 6 _ rfl⟩
            clear hK K
            try simp only [Act.put, List.setIfInBounds_toArray, List.set_cons_zero, List.set_cons_succ]
            refine wpAnyH_ready (rs := [13]) (by kernel_rfl) (by simp) ?_
            refine AllReadyH.cons (o := { dst := some 82, op := Op.call { callee := Callee.value (Operand.func 29), args := #[Operand.tmp 76, Operand.tmp 78, Operand.const (Value.int IntKind.i64 0), Operand.tmp 81], argTypes := #[47, 9, 3, 27] }, type := 31, pos := "law.go:108", after := #[{ on := 7, ground := Ground.data }, { on := 9, ground := Ground.data }, { on := 12, ground := Ground.data }, { on := 6, ground := Ground.chain }], guard := none }) rfl (fun K hK => ?_) ?_
            · go_simp
              refine (trwrite_calls (unhide TT) (unhide FEW) nm (unhide HSE).nm 0 (by decide) sh.dp dn sh.dc S.d (unhide HDN) (unhide SEX _ (unhide BB) _ _ (unhide HSE)).at_.d (by omega)).mono ?_
              rintro e W4 ⟨rfl, t4, a4⟩
              have XB := hide ((a4.av _ rfl).trans (unhide XB))
              have TT := hide t4
              have BB := hide ((unhide BB).trans a4.bel)
              clear t4 a4
              go_wp2_with fail
              refine hK.out _ _ ?_ (fun hHeld => ?_)
              · try dsimp only
                exact ⟨box_cell (unhide XB) 5 _ rfl, box_cell (unhide XB) 6 _ rfl⟩
              clear hK K
              try simp only [Act.put, List.setIfInBounds_toArray, List.set_cons_zero, List.set_cons_succ]
              refine held_take 14 (oi := { dst := some 83, op := Op.binOp BinOp.neq 31 (Operand.tmp 75) (Operand.tmp 82) 31, type := 4, pos := "law.go:108", after := #[{ on := 6, ground := Ground.data }, { on := 13, ground := Ground.data }], guard := none }) (v := ?_) (by kernel_rfl) rfl (by rfl) (by kernel_rfl) (by kernel_rfl) (fun _ _ _ h => h) ?_ (by assumption) ?_
              rotate_left
              · (intro w hSw; (try dsimp only at hSw); go_simp; try with_reducible rfl)
              try simp only [Act.put, List.setIfInBounds_toArray, List.set_cons_zero, List.set_cons_succ]
              refine wpAnyH_done (by kernel_rfl) ?_ _
              generalize (((dWrite room nm.data.toList 0 S.d ss).1 : Nat) : Int) = si at *
              have y5 : (si != si) = false := by simp
              have TT := hide ((unhide TT).sub (Cv := fun _ => False) (fun g hg => hg.elim))
              clear XB
              go_wp2_with fail
              obtain ⟨uu, huu⟩ : ∃ uu, (dWrite room nm.data.toList 0 S.d ss).2 = uu := ⟨_, rfl⟩
              rw [huu] at TT
              clear huu
              have LC := hide (tload_calls (unhide TT) (unhide TZX _ (unhide BB)))
              go_at_call 30
              refine (unhide LC).mono ?_
              rintro e V5 ⟨h5, rfl, s5, v5⟩
              generalize hsl : sLoad uu = sl at *
              have HSL := hide hsl
              clear hsl LC
              obtain ⟨q, hq⟩ : ∃ q, sl.getD sn0 = q := ⟨_, rfl⟩
              obtain ⟨ei, hei⟩ : ∃ ei : Int, (if sl.isSome = true then (0 : Int) else 8) = ei := ⟨_, rfl⟩
              rw [hq] at s5
              rw [hq, hei]
              have HQ := hide hq
              have HEI := hide hei
              clear hq hei
              unfold snRow
              have TT := hide ((unhide TT).later v5)
              have BB := hide ((unhide BB).trans (v5.mono (unhide LSX _ (unhide BB))))
              have S5 := hide s5
              have A5 := hide (show Below V5.heap.size V5 (V5.alloc (.cells #[.int .i64 q.i, .int .i64 q.t, .slice h5.va q.v.length h5.vc, .slice h5.la q.l.length h5.lc, .slice h5.dp q.d.length h5.dc] 29)) from (Below.refl _ _).alloc (Nat.le_refl _) _)
              have X5 := hide (heap_new V5 (.cells #[.int .i64 q.i, .int .i64 q.t, .slice h5.va q.v.length h5.vc, .slice h5.la q.l.length h5.lc, .slice h5.dp q.d.length h5.dc] 29))
              have TT := hide ((unhide TT).later (unhide A5))
              have BB := hide ((unhide BB).trans ((unhide A5).mono (unhide LSX _ (unhide BB))))
              have S5 := hide ((unhide S5).later (unhide A5))
              have RC := hide (trload_calls (unhide TT) (unhide TT).nmOk)
              rw [unhide HSL] at RC
              clear s5 v5
              go_wp2_with fail
              generalize V5.alloc _ = W5 at *
              generalize V5.heap.size = E5 at *
              go_at_call 31
              refine (unhide RC).mono ?_
              rintro e V6 ⟨h6, rfl, s6, v6⟩
              rw [unhide HQ] at s6
              rw [unhide HQ, unhide HEI]
              unfold snRow
              have EIQ := hide (rfl : ei = ei)
              clear RC
              have TT := hide ((unhide TT).later v6)
              have BB := hide ((unhide BB).trans (v6.mono (unhide LSX _ (unhide BB))))
              have S5 := hide ((unhide S5).later v6)
              have S6 := hide s6
              have X5 := hide (later_block v6 (unhide X5))
              have A6 := hide (show Below V6.heap.size V6 (V6.alloc (.cells #[.int .i64 q.i, .int .i64 q.t, .slice h6.va q.v.length h6.vc, .slice h6.la q.l.length h6.lc, .slice h6.dp q.d.length h6.dc] 29)) from (Below.refl _ _).alloc (Nat.le_refl _) _)
              have X6 := hide (heap_new V6 (.cells #[.int .i64 q.i, .int .i64 q.t, .slice h6.va q.v.length h6.vc, .slice h6.la q.l.length h6.lc, .slice h6.dp q.d.length h6.dc] 29))
              have TT := hide ((unhide TT).later (unhide A6))
              have BB := hide ((unhide BB).trans ((unhide A6).mono (unhide LSX _ (unhide BB))))
              have S5 := hide ((unhide S5).later (unhide A6))
              have S6 := hide ((unhide S6).later (unhide A6))
              have X5 := hide (later_block (unhide A6) (unhide X5))
              have SC := hide (sameS_yes q h5 h6 _ (unhide S5) (unhide S6))
              unfold snRow at SC
              clear s6 v6
              have b0 := box_cell (unhide X5) 0 _ rfl
              have b1 := box_cell (unhide X5) 1 _ rfl
              have b2 := box_cell (unhide X5) 2 _ rfl
              have b3 := box_cell (unhide X5) 3 _ rfl
              have b4 := box_cell (unhide X5) 4 _ rfl
              have c0 := box_cell (unhide X6) 0 _ rfl
              have c1 := box_cell (unhide X6) 1 _ rfl
              have c2 := box_cell (unhide X6) 2 _ rfl
              have c3 := box_cell (unhide X6) 3 _ rfl
              have c4 := box_cell (unhide X6) 4 _ rfl
              have y9 : (ei != ei) = false := by simp
              go_wp2_with fail
              clear b0 b1 b2 b3 b4 c0 c1 c2 c3 c4
              generalize V6.alloc _ = W6 at *
              generalize V6.heap.size = E6 at *
              go_at_call 18
              refine (unhide SC).mono ?_
              rintro e V7 ⟨rfl, v7⟩
              have TT := hide ((unhide TT).later v7)
              have BB := hide ((unhide BB).trans (v7.mono (unhide LSX _ (unhide BB))))
              have NC := hide (tnames_calls (unhide TT))
              clear v7 SC
              go_wp2_with fail
              go_at_call 33
              refine (unhide NC).mono ?_
              rintro e V8 ⟨np, nn, nc, rfl, hnn, ho, v8⟩
              have ON := hide ho
              have HNN := hide hnn
              have TT := hide ((unhide TT).later v8)
              have BB := hide ((unhide BB).trans (v8.mono (unhide LSX _ (unhide BB))))
              have NC2 := hide (trnames_calls (unhide TT))
              clear ho hnn v8 NC
              go_wp2_with fail
              go_at_call 34
              refine (unhide NC2).mono ?_
              rintro e V9 ⟨mp, mm, mc, rfl, hmm, ho2, v9⟩
              have e9 : nn = mm := (unhide HNN).symm.trans hmm
              subst e9
              have ON := hide ((unhide ON).later v9)
              have OM := hide ho2
              have TT := hide ((unhide TT).later v9)
              have BB := hide ((unhide BB).trans (v9.mono (unhide LSX _ (unhide BB))))
              have TC := hide (sameTexts_yes _ _ V9 (uu.map (·.1)) nn (by rw [List.length_map]; exact unhide HNN) (by have h1 := (unhide TT).lenS; have h2 := unhide HNN; omega) np mp nc mc (unhide ON) (unhide OM))
              clear ho2 hmm v9 NC2
              go_wp2_with fail
              go_at_call 32
              refine (unhide TC).mono ?_
              rintro e V10 ⟨rfl, v10⟩
              have TT := hide ((unhide TT).later v10)
              have BB := hide ((unhide BB).trans (v10.mono (unhide LSX _ (unhide BB))))
              have UC := hide (tused_calls (unhide TT))
              clear v10 TC
              go_wp2_with fail
              go_at_call 35
              refine (unhide UC).mono ?_
              rintro e V11 ⟨rfl, v11⟩
              have TT := hide ((unhide TT).later v11)
              have BB := hide ((unhide BB).trans (v11.mono (unhide LSX _ (unhide BB))))
              have UC2 := hide (trused_calls (unhide TT))
              clear v11 UC
              go_wp2_with fail
              go_at_call 36
              refine (unhide UC2).mono ?_
              rintro e V12 ⟨rfl, v12⟩
              have TT := hide ((unhide TT).later v12)
              have BB := hide ((unhide BB).trans (v12.mono (unhide LSX _ (unhide BB))))
              clear v12 UC2
              generalize ((usedS uu : Nat) : Int) = ui at *
              have y8 : (ui != ui) = false := by simp
              go_wp2
              exact ⟨⟨j + 1, N + 1, uu, by omega, by omega, by go_num, by omega, TT, BB⟩, by simp [intOf]; omega⟩
            exact AllReadyH.nil
          exact AllReadyH.nil
        · as_aux_lemma =>
          have k2a : (kd == 2) = false := by simp [k2]
          have TT := hide (unhide TT1)
          have BB := hide (unhide BB1)
          clear TM
          go_wp2_with fail
          generalize wr.alloc _ = W1 at *
          generalize hE1 : wr.heap.size = E1 at *
          have HE1 := hide hE1
          clear hE1 x0 x1 x2 x3 x4 x5 x6 x7 p0 p1 p2 p3 p4 p5 p6 p7
          clear BB1 TT1 X1
          obtain ⟨uu, huu⟩ : ∃ uu, ss = uu := ⟨_, rfl⟩
          rw [huu] at TT
          clear huu
          have LC := hide (tload_calls (unhide TT) (unhide TZX _ (unhide BB)))
          go_at_call 30
          refine (unhide LC).mono ?_
          rintro e V5 ⟨h5, rfl, s5, v5⟩
          generalize hsl : sLoad uu = sl at *
          have HSL := hide hsl
          clear hsl LC
          obtain ⟨q, hq⟩ : ∃ q, sl.getD sn0 = q := ⟨_, rfl⟩
          obtain ⟨ei, hei⟩ : ∃ ei : Int, (if sl.isSome = true then (0 : Int) else 8) = ei := ⟨_, rfl⟩
          rw [hq] at s5
          rw [hq, hei]
          have HQ := hide hq
          have HEI := hide hei
          clear hq hei
          unfold snRow
          have TT := hide ((unhide TT).later v5)
          have BB := hide ((unhide BB).trans (v5.mono (unhide LSX _ (unhide BB))))
          have S5 := hide s5
          have A5 := hide (show Below V5.heap.size V5 (V5.alloc (.cells #[.int .i64 q.i, .int .i64 q.t, .slice h5.va q.v.length h5.vc, .slice h5.la q.l.length h5.lc, .slice h5.dp q.d.length h5.dc] 29)) from (Below.refl _ _).alloc (Nat.le_refl _) _)
          have X5 := hide (heap_new V5 (.cells #[.int .i64 q.i, .int .i64 q.t, .slice h5.va q.v.length h5.vc, .slice h5.la q.l.length h5.lc, .slice h5.dp q.d.length h5.dc] 29))
          have TT := hide ((unhide TT).later (unhide A5))
          have BB := hide ((unhide BB).trans ((unhide A5).mono (unhide LSX _ (unhide BB))))
          have S5 := hide ((unhide S5).later (unhide A5))
          have RC := hide (trload_calls (unhide TT) (unhide TT).nmOk)
          rw [unhide HSL] at RC
          clear s5 v5
          go_wp2_with fail
          generalize V5.alloc _ = W5 at *
          generalize V5.heap.size = E5 at *
          go_at_call 31
          refine (unhide RC).mono ?_
          rintro e V6 ⟨h6, rfl, s6, v6⟩
          rw [unhide HQ] at s6
          rw [unhide HQ, unhide HEI]
          unfold snRow
          have EIQ := hide (rfl : ei = ei)
          clear RC
          have TT := hide ((unhide TT).later v6)
          have BB := hide ((unhide BB).trans (v6.mono (unhide LSX _ (unhide BB))))
          have S5 := hide ((unhide S5).later v6)
          have S6 := hide s6
          have X5 := hide (later_block v6 (unhide X5))
          have A6 := hide (show Below V6.heap.size V6 (V6.alloc (.cells #[.int .i64 q.i, .int .i64 q.t, .slice h6.va q.v.length h6.vc, .slice h6.la q.l.length h6.lc, .slice h6.dp q.d.length h6.dc] 29)) from (Below.refl _ _).alloc (Nat.le_refl _) _)
          have X6 := hide (heap_new V6 (.cells #[.int .i64 q.i, .int .i64 q.t, .slice h6.va q.v.length h6.vc, .slice h6.la q.l.length h6.lc, .slice h6.dp q.d.length h6.dc] 29))
          have TT := hide ((unhide TT).later (unhide A6))
          have BB := hide ((unhide BB).trans ((unhide A6).mono (unhide LSX _ (unhide BB))))
          have S5 := hide ((unhide S5).later (unhide A6))
          have S6 := hide ((unhide S6).later (unhide A6))
          have X5 := hide (later_block (unhide A6) (unhide X5))
          have SC := hide (sameS_yes q h5 h6 _ (unhide S5) (unhide S6))
          unfold snRow at SC
          clear s6 v6
          have b0 := box_cell (unhide X5) 0 _ rfl
          have b1 := box_cell (unhide X5) 1 _ rfl
          have b2 := box_cell (unhide X5) 2 _ rfl
          have b3 := box_cell (unhide X5) 3 _ rfl
          have b4 := box_cell (unhide X5) 4 _ rfl
          have c0 := box_cell (unhide X6) 0 _ rfl
          have c1 := box_cell (unhide X6) 1 _ rfl
          have c2 := box_cell (unhide X6) 2 _ rfl
          have c3 := box_cell (unhide X6) 3 _ rfl
          have c4 := box_cell (unhide X6) 4 _ rfl
          have y9 : (ei != ei) = false := by simp
          go_wp2_with fail
          clear b0 b1 b2 b3 b4 c0 c1 c2 c3 c4
          generalize V6.alloc _ = W6 at *
          generalize V6.heap.size = E6 at *
          go_at_call 18
          refine (unhide SC).mono ?_
          rintro e V7 ⟨rfl, v7⟩
          have TT := hide ((unhide TT).later v7)
          have BB := hide ((unhide BB).trans (v7.mono (unhide LSX _ (unhide BB))))
          have NC := hide (tnames_calls (unhide TT))
          clear v7 SC
          go_wp2_with fail
          go_at_call 33
          refine (unhide NC).mono ?_
          rintro e V8 ⟨np, nn, nc, rfl, hnn, ho, v8⟩
          have ON := hide ho
          have HNN := hide hnn
          have TT := hide ((unhide TT).later v8)
          have BB := hide ((unhide BB).trans (v8.mono (unhide LSX _ (unhide BB))))
          have NC2 := hide (trnames_calls (unhide TT))
          clear ho hnn v8 NC
          go_wp2_with fail
          go_at_call 34
          refine (unhide NC2).mono ?_
          rintro e V9 ⟨mp, mm, mc, rfl, hmm, ho2, v9⟩
          have e9 : nn = mm := (unhide HNN).symm.trans hmm
          subst e9
          have ON := hide ((unhide ON).later v9)
          have OM := hide ho2
          have TT := hide ((unhide TT).later v9)
          have BB := hide ((unhide BB).trans (v9.mono (unhide LSX _ (unhide BB))))
          have TC := hide (sameTexts_yes _ _ V9 (uu.map (·.1)) nn (by rw [List.length_map]; exact unhide HNN) (by have h1 := (unhide TT).lenS; have h2 := unhide HNN; omega) np mp nc mc (unhide ON) (unhide OM))
          clear ho2 hmm v9 NC2
          go_wp2_with fail
          go_at_call 32
          refine (unhide TC).mono ?_
          rintro e V10 ⟨rfl, v10⟩
          have TT := hide ((unhide TT).later v10)
          have BB := hide ((unhide BB).trans (v10.mono (unhide LSX _ (unhide BB))))
          have UC := hide (tused_calls (unhide TT))
          clear v10 TC
          go_wp2_with fail
          go_at_call 35
          refine (unhide UC).mono ?_
          rintro e V11 ⟨rfl, v11⟩
          have TT := hide ((unhide TT).later v11)
          have BB := hide ((unhide BB).trans (v11.mono (unhide LSX _ (unhide BB))))
          have UC2 := hide (trused_calls (unhide TT))
          clear v11 UC
          go_wp2_with fail
          go_at_call 36
          refine (unhide UC2).mono ?_
          rintro e V12 ⟨rfl, v12⟩
          have TT := hide ((unhide TT).later v12)
          have BB := hide ((unhide BB).trans (v12.mono (unhide LSX _ (unhide BB))))
          clear v12 UC2
          generalize ((usedS uu : Nat) : Int) = ui at *
          have y8 : (ui != ui) = false := by simp
          go_wp2
          exact ⟨⟨j + 1, N, uu, by omega, by omega, by go_num, by omega, TT, BB⟩, by simp [intOf]; omega⟩
      · have y2 : ¬ (j : Int) < 40 := by omega
        have y1 : (j : Int) < (n : Int) := by omega
        as_aux_lemma =>
        have A8 := hide (show ∀ V8 : World, Below V8.heap.size V8 (V8.alloc (.cells #[.int .i64 0, .int .i64 0, .slice none 0 0, .slice none 0 0, .slice none 0 0] 29)) from fun V8 => (Below.refl _ _).alloc (Nat.le_refl _) _)
        go_wp2_with fail
        go_at_call 30
        refine (load_nil _).mono ?_
        rintro e V8 ⟨rfl, v8⟩
        have B8 := hide ((unhide BB).trans (v8.mono (unhide LSX _ (unhide BB))))
        have B9 := hide ((unhide B8).trans ((unhide A8 V8).mono (unhide LSX _ (unhide B8))))
        clear v8 A8
        go_wp2_with fail
        generalize V8.alloc _ = V9 at *
        go_at_call 17
        refine (live7_calls _ (unhide TZX _ (unhide B9))).mono ?_
        rintro e V10 ⟨rfl, v10⟩
        have B10 := hide ((unhide B9).trans (v10.mono (unhide LSX _ (unhide B9))))
        clear v10
        go_wp2_with fail
        go_at_call 37
        refine (of_calls 1 (by omega) _).mono ?_
        rintro e V11 ⟨h11, rfl, s11, v11⟩
        have B11 := hide ((unhide B10).trans (v11.mono (unhide LSX _ (unhide B10))))
        clear v11 s11
        go_wp2_with fail
        go_at_call 24
        refine (save_nil _ _ _).mono ?_
        rintro e V12 ⟨rfl, v12⟩
        have B12 := hide ((unhide B11).trans (v12.mono (unhide LSX _ (unhide B11))))
        clear v12
        go_wp2
        go_ret
        exact ⟨by first | rfl | simp, by rw [unhide HGG]; exact unhide B12⟩
    · have y1 : ¬ (j : Int) < (n : Int) := by omega
      as_aux_lemma =>
      have A8 := hide (show ∀ V8 : World, Below V8.heap.size V8 (V8.alloc (.cells #[.int .i64 0, .int .i64 0, .slice none 0 0, .slice none 0 0, .slice none 0 0] 29)) from fun V8 => (Below.refl _ _).alloc (Nat.le_refl _) _)
      go_wp2_with fail
      go_at_call 30
      refine (load_nil _).mono ?_
      rintro e V8 ⟨rfl, v8⟩
      have B8 := hide ((unhide BB).trans (v8.mono (unhide LSX _ (unhide BB))))
      have B9 := hide ((unhide B8).trans ((unhide A8 V8).mono (unhide LSX _ (unhide B8))))
      clear v8 A8
      go_wp2_with fail
      generalize V8.alloc _ = V9 at *
      go_at_call 17
      refine (live7_calls _ (unhide TZX _ (unhide B9))).mono ?_
      rintro e V10 ⟨rfl, v10⟩
      have B10 := hide ((unhide B9).trans (v10.mono (unhide LSX _ (unhide B9))))
      clear v10
      go_wp2_with fail
      go_at_call 37
      refine (of_calls 1 (by omega) _).mono ?_
      rintro e V11 ⟨h11, rfl, s11, v11⟩
      have B11 := hide ((unhide B10).trans (v11.mono (unhide LSX _ (unhide B10))))
      clear v11 s11
      go_wp2_with fail
      go_at_call 24
      refine (save_nil _ _ _).mono ?_
      rintro e V12 ⟨rfl, v12⟩
      have B12 := hide ((unhide B11).trans (v12.mono (unhide LSX _ (unhide B11))))
      clear v12
      go_wp2
      go_ret
      exact ⟨by first | rfl | simp, by rw [unhide HGG]; exact unhide B12⟩
end Go.Proofs.YtagncghpfdjkmaaGreatDoor.snapSaves
