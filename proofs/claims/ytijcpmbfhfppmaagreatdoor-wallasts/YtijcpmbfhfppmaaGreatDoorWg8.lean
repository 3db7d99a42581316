/- Logs: Append. -/
import Derived.Test.YtijcpmbfhfppmaaGreatDoorWg7
namespace Go.Proofs.YtijcpmbfhfppmaaGreatDoor
open Go.ChangeShapes Go.WideShapes Go.ChangeAt Go.RowKit
set_option linter.unusedVariables false

theorem recsE_ne : ∀ {es : List EntI} {x : Nat}, recsE es = .error x → x ≠ 0
  | [], _, h => by cases h
  | e :: r, x, h => by
    rw [recsE_cons] at h
    cases hp : putE e with
    | error y =>
      rw [hp] at h
      cases h
      unfold putE at hp
      split at hp
      · split at hp
        · cases hp
        · cases hp; omega
      · cases hp; omega
    | ok c =>
      rw [hp] at h
      dsimp only at h
      cases hr : recsE r with
      | error y => rw [hr] at h; cases h; exact recsE_ne hr
      | ok m => rw [hr] at h; cases h
section
variable {Av : Nat → Prop} {base : Nat} {w w' : World} {L d M room N N' : Nat} {ss ss' : Ds} {c : Wc} {n : Nat} {ep : Option Addr} {ec : Nat} {hs : List (Option Addr × Nat)}
set_option maxRecDepth 20000 in
set_option maxHeartbeats 16000000 in
theorem append_calls (z : WAt Av base w L d M room N ss c n ep ec hs) (hN : N + 2 ≤ 1000000) (a : Option Addr) (m k : Nat) (es : List EntI) (hm : es.length = m) (hE : EntsIn (fun g => g < base ∨ Av g) w a es) (hl : c.es.length + m ≤ 1000000) :
    Calls Tryz.prog 27 #[.pointer (some ⟨L, 0, none⟩), .slice a m k] w (LgEnd Av base L d M room (N + 2) w (wAppend room n c es ss)) := by
  have WH := hide (show wAppend room n c es ss = (match recsE es with
    | .error x => (x, ss, c, n)
    | .ok b =>
      if fitAllW c es = false then (2, ss, c, n)
      else if es.length = 0 then (0, ss, c, n)
      else if (wAddR room n c b ss).1 ≠ 0 then ((wAddR room n c b ss).1, (wAddR room n c b ss).2.1, c, (wAddR room n c b ss).2.2)
      else (0, (wAddR room n c b ss).2.1, addAll c es, (wAddR room n c b ss).2.2)) from rfl)
  generalize wAppend room n c es ss = wh at *
  have Z := hide z
  have HE := hide hE
  have HM := hide hm
  have EC := hide (entryRecords_calls a m k es w hm hE.at_ (by omega))
  have FS := hide (show ∀ (r : Nat) W, Below w.heap.size w W → LgEnd Av base L d M room (N + 2) w (r, ss, c, n) (.returned (.int .i64 (r : Int))) W from fun r W u => ⟨rfl, ⟨ep, ec, hs, (z.later u).monoN (by omega) hN⟩, (z.asdB u).sub (fun g hg => .inl hg)⟩)
  clear z hE hm
  cases hr : recsE es with
  | error x =>
    rw [hr] at WH EC
    have hx := recsE_ne hr
    have hx0 : ¬ (x : Int) = 0 := by omega
    have hx1 : ((x : Int) == 0) = false := by simp; omega
    clear hr hx
    go_enter Tryz.func27, Tryz.ntmps27
    go_wp2_with fail
    go_at_call 65
    refine (unhide EC).mono ?_
    rintro e V1 ⟨v1, rfl⟩
    have FE := hide (unhide FS x V1 v1)
    clear v1
    go_wp2
    go_ret
    rw [unhide WH]
    exact unhide FE
  | ok b =>
    rw [hr] at WH EC
    dsimp only at WH
    have AL := hide (recsE_all hr)
    have RL := hide (recsE_len hr)
    have IX := hide (show ∀ e ∈ es, 1 ≤ e.2.2.1 ∧ e.2.2.1 ≤ 1099511627776 from fun e he => by
      obtain ⟨h1, ⟨_, _, ⟨h2, h3⟩, _⟩⟩ := recsE_all hr e he
      simp only [toN] at h2 h3
      omega)
    clear hr
    go_enter Tryz.func27, Tryz.ntmps27
    go_wp2_with fail
    go_at_call 65
    refine (unhide EC).mono ?_
    rintro e V1 ⟨v1, sp1, n1, k1, rfl, hn1, o1⟩
    have U1 := hide v1
    have O1 := hide o1
    have FC := hide (fitAll_calls ((unhide Z).later v1).lg 1 rfl (unhide Z).ok.bi (unhide Z).le a m k es (unhide HM) (by omega) ((unhide HE).at_.later v1) (unhide IX))
    clear v1 o1 EC
    go_wp2_with fail
    go_at_call 66
    refine (unhide FC).mono ?_
    rintro e V2 ⟨rfl, v2⟩
    have U2 := hide ((unhide U1).trans (v2.mono (unhide U1).size))
    have O2 := hide ((unhide O1).later v2)
    clear v2 O1 FC
    cases hfa : fitAllW c es with
    | false =>
      rw [if_pos hfa] at WH
      have FE := hide (unhide FS 2 V2 (unhide U2))
      clear hfa
      go_wp2
      go_ret
      rw [unhide WH]
      exact unhide FE
    | true =>
      rw [if_neg (by rw [hfa]; simp)] at WH
      by_cases h0 : m = 0
      · rw [if_pos (by rw [unhide HM]; exact h0)] at WH
        have h0' : ((m : Int) == 0) = true := by simp [h0]
        have FE := hide (unhide FS 0 V2 (unhide U2))
        clear h0 hfa
        go_wp2
        go_ret
        rw [unhide WH]
        exact unhide FE
      · rw [if_neg (by rw [unhide HM]; exact h0)] at WH
        have h0' : ((m : Int) == 0) = false := by simp; omega
        have h0'' : ¬ (m : Int) = 0 := by omega
        have FA := hide (fit_at hfa (fun e he => (unhide IX e he).1))
        have Z2 := hide ((unhide Z).more (unhide U2))
        have AC := hide (addRecords_calls (unhide Z2) hN sp1 n1 k1 b (unhide hn1) (by rw [← unhide hn1]; exact (unhide O2).cap.1) (unhide O2).bytes (unhide O2).toBx.nil0 (fun g off e h0 => .inr (.inr ⟨by
          have h1 := ((unhide O2).blk_lt g (by rw [e]; rfl)).1
          omega, ((unhide O2).blk_lt g (by rw [e]; rfl)).2⟩)) (by have := unhide hn1; have := unhide RL; have := unhide HM; omega))
        generalize wAddR room n c b ss = r3 at *
        obtain ⟨e3, s3, n3⟩ := r3
        try dsimp only at WH
        clear h0 hfa
        go_wp2_with fail
        go_at_call 67
        refine (unhide AC).mono ?_
        rintro e V3 ⟨rfl, z3, a3⟩
        have A3 := hide ((((unhide Z).asdB (unhide U2)).sub (Bv := Av) (fun g hg => .inl hg)).trans (a3.sub (Bv := Av) (fun g hg => .inl hg)))
        have Z3 := hide (z3.sub (Bv := Av) (fun g hg => .inl hg))
        clear z3 a3 AC
        dsimp only at *
        by_cases h3 : e3 = 0
        · subst h3
          rw [if_neg (by simp)] at WH
          rw [show ((0 : Nat) : Int) = 0 from rfl]
          go_wp2_with fail
          go_loopw [37] (fun i wr => ∃ (j : Nat) (ep : Option Addr) (ec : Nat) (hs : List (Option Addr × Nat)), j ≤ m ∧ i = .int .i64 (j : Int) ∧ Hid (WAt Av base wr L d M room (N + 2) s3 (addAll c (es.take j)) n3 ep ec hs) ∧ Hid (Asd Av base w wr)) (fun i _ => m - (intOf i).toNat)
          case atStart => exact ⟨0, ep, ec, hs, by omega, rfl, Z3, A3⟩
          case round =>
            clear Z3 A3
            obtain ⟨j, ep, ec, hs, hj, rfl, Z4, A4⟩ := hrel
            by_cases hjm : j < m
            · have y0 : (0 : Int) ≤ (j : Int) := by omega
              have y1 : (j : Int) < (m : Int) := by omega
              have hjl : j < es.length := by rw [unhide HM]; exact hjm
              obtain ⟨b', off, dp, dc, rfl, p0, p1, p2, p3, q4, nz⟩ := ((unhide HE).asd (unhide A4)).at_.cell j hjl
              obtain ⟨hx1, hx2⟩ := unhide AL es[j] (List.getElem_mem hjl)
              have FJ := unhide FA j hjl
              have ST := addAll_take c es j hjl
              have OK1 := hide (addAll_ok (unhide Z).ok (es.take (j + 1)) (fun e he => (unhide AL e (List.mem_of_mem_take he)).2))
              have LE1 := hide (show (addAll c (es.take (j + 1))).es.length ≤ 1000000 by
                have h1 := addAll_len c (es.take (j + 1))
                rw [List.length_take] at h1
                omega)
              have LE0 := (unhide Z4).le
              have BI0 : (addAll c (es.take j)).bi = c.bi := (addAll_bi c (es.take j)).1
              obtain ⟨x, hx⟩ : ∃ x, toN es[j] = x := ⟨_, rfl⟩
              rw [hx] at hx1 hx2 ST
              rw [← hx1] at p0 p1 p2 p3 q4 FJ
              obtain ⟨xk, xt, xi, xd⟩ := x
              simp only [toI] at p0 p1 p2 p3 q4 FJ
              rw [Int.toNat_natCast] at FJ
              have hxd : xd.length ≤ 2048 := hx2.2.2.2.2
              have cbi := (unhide Z).ok.bi
              have AD := hide (fun (W : World) (u : Below wr.heap.size wr W) (sp : Option Addr) (k : Nat) (hb : Bx base W sp k xd) => add_calls (e := (xk, xt, xi, xd)) ((unhide Z4).later u).lg 1 rfl (by decide) (by decide) ((unhide Z4).later u).ow (by rw [BI0]; exact cbi) LE0 sp xd.length k rfl hb (by dsimp only; rw [BI0]; exact FJ.1) (by dsimp only; rw [BI0]; exact FJ.2) (Nat.le_trans (unhide Z4).dk.le u.size))
              rw [← ST] at AD
              have v1 : Below wr.heap.size wr (wr.alloc (entB (xk : Int) (xt : Int) (xi : Int) dp xd.length dc)) := (Below.refl _ _).alloc (Nat.le_refl _) _
              have X1 := hide (heap_new wr (entB (xk : Int) (xt : Int) (xi : Int) dp xd.length dc))
              obtain ⟨e0, e1, e2, e3⟩ := entB_cells (unhide X1)
              have SZ1 := hide (show (wr.alloc (entB (xk : Int) (xt : Int) (xi : Int) dp xd.length dc)).heap.size = wr.heap.size + 1 by simp)
              have CL := hide (clone_calls dp xd.length dc xd (wr.alloc (entB (xk : Int) (xt : Int) (xi : Int) dp xd.length dc)) rfl (by omega) (q4.later v1) nz)
              have B1 := hide v1
              clear v1 q4 nz hx1 hx2 FJ ST BI0 LE0 hx hjl
              go_wp2_with fail
              clear e0 e1 e2 e3 p0 p1 p2 p3
              generalize wr.alloc _ = W1 at *
              go_at_call 60
              refine (unhide CL).mono ?_
              rintro e V4 ⟨sp4, c4, rfl, o4, v4⟩
              have X2 := hide (later_block v4 (unhide X1))
              obtain ⟨e0, e1, e2, e3⟩ := entB_cells (unhide X2)
              have f3 := froz_of (unhide X2) 3
              have U4 := hide ((unhide B1).trans (v4.mono (unhide B1).size))
              have X5 := hide (heap_setCell_same V4 wr.heap.size 3 _ _ (.slice sp4 xd.length c4) (unhide X2))
              have G5 := hide (grown_set V4 wr.heap.size 3 (.slice sp4 xd.length c4))
              have U5 := hide ((unhide U4).grown (unhide G5) (unhide U4).size (fun g e => by have := Option.some.inj e; omega))
              have O5 := hide (o4.far (unhide G5) (by rw [unhide SZ1]; omega))
              clear o4 v4 CL
              go_wp2_with fail
              clear e0 e1 e2 e3 f3
              generalize V4.setCell _ _ = W5 at *
              have d0 : W5.drew.cell? ⟨wr.heap.size, 0, none⟩ = some (.int .i64 (xk : Int)) := box_cell (unhide X5) 0 _ rfl
              have d1 : W5.drew.cell? ⟨wr.heap.size, 1, none⟩ = some (.int .i64 (xt : Int)) := box_cell (unhide X5) 1 _ rfl
              have d2 : W5.drew.cell? ⟨wr.heap.size, 2, none⟩ = some (.int .i64 (xi : Int)) := box_cell (unhide X5) 2 _ rfl
              have d3 : W5.drew.cell? ⟨wr.heap.size, 3, none⟩ = some (.slice sp4 xd.length c4) := box_cell (unhide X5) 3 _ rfl
              have U6 := hide (show Below wr.heap.size wr W5.drew from (unhide U5).trans ((Below.refl _ _).drew))
              have AC := hide (unhide AD W5.drew (unhide U6) sp4 c4 ((((unhide O5).mono (show base ≤ W1.heap.size by rw [unhide SZ1]; have := (unhide Z4).dk.le; omega)).later ((Below.refl _ _).drew)).toBx))
              have S5 := hide (show wr.heap.size < W5.heap.size from (Array.getElem?_eq_some_iff.1 (unhide X5)).1)
              refine wp_region_held_drew (S := fun w' => w'.cell? ⟨wr.heap.size, 0, none⟩ = some (.int .i64 (xk : Int)) ∧ w'.cell? ⟨wr.heap.size, 1, none⟩ = some (.int .i64 (xt : Int)) ∧ w'.cell? ⟨wr.heap.size, 2, none⟩ = some (.int .i64 (xi : Int)) ∧ w'.cell? ⟨wr.heap.size, 3, none⟩ = some (.slice sp4 xd.length c4)) (by kernel_rfl) ?_ (fun hHeld => ?_)
              · try dsimp only
                first | exact ⟨d0, d1, d2, d3⟩ | exact ⟨g0, g1, g2, g3⟩
              refine held_take 0 (oi := { dst := some 45, op := Op.move (Operand.tmp 0), type := 39, pos := "wal.go:57", after := #[], guard := none }) (v := ?_) (by kernel_rfl) rfl (by rfl) (by kernel_rfl) (by kernel_rfl) (fun _ _ _ h => h) ?_ (by assumption) ?_
              rotate_left
              · (intro w hSw; (try dsimp only at hSw); go_simp; try with_reducible rfl)
              try simp only [Act.put, List.setIfInBounds_toArray, List.set_cons_zero, List.set_cons_succ]
              refine held_take 1 (oi := { dst := some 46, op := Op.nilCheck (Operand.tmp 45), type := 0, pos := "wal.go:57", after := #[{ on := 0, ground := Ground.data }], guard := none }) (v := ?_) (by kernel_rfl) rfl (by rfl) (by kernel_rfl) (by kernel_rfl) (fun _ _ _ h => h) ?_ (by assumption) ?_
              rotate_left
              · (intro w hSw; (try dsimp only at hSw); go_simp; try with_reducible rfl)
              try simp only [Act.put, List.setIfInBounds_toArray, List.set_cons_zero, List.set_cons_succ]
              refine held_take 2 (oi := { dst := some 47, op := Op.fieldAddr 96 (Operand.tmp 46) 1, type := 0, pos := "wal.go:57", after := #[{ on := 1, ground := Ground.data }], guard := none }) (v := ?_) (by kernel_rfl) rfl (by rfl) (by kernel_rfl) (by kernel_rfl) (fun _ _ _ h => h) ?_ (by assumption) ?_
              rotate_left
              · (intro w hSw; (try dsimp only at hSw); go_simp; try with_reducible rfl)
              try simp only [Act.put, List.setIfInBounds_toArray, List.set_cons_zero, List.set_cons_succ]
              refine held_take 3 (oi := { dst := some 48, op := Op.load 60 (Operand.tmp 9), type := 60, pos := "wal.go:57", after := #[], guard := none }) (v := ?_) (by kernel_rfl) rfl (by rfl) (by kernel_rfl) (by kernel_rfl) (fun _ _ _ h => h) ?_ (by assumption) ?_
              rotate_left
              · (intro w hSw; (try dsimp only at hSw); go_simp; try with_reducible rfl)
              try simp only [Act.put, List.setIfInBounds_toArray, List.set_cons_zero, List.set_cons_succ]
              refine held_one 4 (oi := { dst := some 49, op := Op.call { callee := Callee.value (Operand.func 68), args := #[Operand.tmp 47, Operand.tmp 48], argTypes := #[94, 60] }, type := 0, pos := "wal.go:57", after := #[{ on := 2, ground := Ground.data }, { on := 3, ground := Ground.data }], guard := none }) (by kernel_rfl) rfl (fun K hK => ?_)
              go_simp
              first
                | (go_at_call 68
                   refine (unhide AC).mono ?_
                   rintro e V6 ⟨rfl, ep6, ec6, hs6, hc6, ho6, hg6, hf6⟩
                   have hk6 := hg6.block wr.heap.size (unhide S5) (fun e => by have := (unhide Z4).ltL; omega) (fun e => by have := ((unhide Z4).ow.foot _ (.inl e)).2.1; omega)
                   have g0 := (World.cell?_of_block (a := ⟨wr.heap.size, 0, none⟩) hk6).trans d0
                   have g1 := (World.cell?_of_block (a := ⟨wr.heap.size, 1, none⟩) hk6).trans d1
                   have g2 := (World.cell?_of_block (a := ⟨wr.heap.size, 2, none⟩) hk6).trans d2
                   have g3 := (World.cell?_of_block (a := ⟨wr.heap.size, 3, none⟩) hk6).trans d3
                   have ZA := hide ((unhide Z4).added (unhide U6) hc6 ho6 hg6 (fun g hg => by
                     rcases hf6 g hg with q | q | q
                     · exact .inl q
                     · right
                       have h1 := ((unhide O5).blk_lt g q).1
                       have h2 := unhide SZ1
                       omega
                     · right
                       exact Nat.le_trans (unhide U6).size q) (unhide OK1) (unhide LE1))
                   clear hc6 ho6 hg6 hf6 hk6)
              go_wp2_with fail
              refine hK.out _ _ ?_ (fun hHeld => ?_)
              · try dsimp only
                first | exact ⟨d0, d1, d2, d3⟩ | exact ⟨g0, g1, g2, g3⟩
              clear hK K
              try simp only [Act.put, List.setIfInBounds_toArray, List.set_cons_zero, List.set_cons_succ]
              refine wpAnyH_done (by kernel_rfl) ?_ _
              have Z6 := hide (unhide ZA).1
              have A6 := hide ((unhide A4).trans (unhide ZA).2)
              clear ZA d0 d1 d2 d3 g0 g1 g2 g3
              go_wp2
              exact ⟨⟨j + 1, ep6, ec6, hs6, by omega, by go_num, Z6, A6⟩, by simp [intOf]; omega⟩
            · have hjj : ¬ (j : Int) < (m : Int) := by omega
              obtain rfl : j = m := by omega
              have FE := hide (show LgEnd Av base L d M room (N + 2) w wh (.returned (.int .i64 0)) wr by
                have h := unhide Z4
                rw [List.take_of_length_le (by rw [unhide HM]; exact Nat.le_refl _)] at h
                rw [unhide WH]
                exact ⟨rfl, ⟨ep, ec, hs, h⟩, unhide A4⟩)
              go_wp2
              go_ret
              exact unhide FE
        · rw [if_pos h3] at WH
          have h3' : ((e3 : Int) == 0) = false := by simp; omega
          have h3'' : ¬ (e3 : Int) = 0 := by omega
          have FE := hide (show LgEnd Av base L d M room (N + 2) w wh (.returned (.int .i64 (e3 : Int))) V3 by
            rw [unhide WH]
            exact ⟨rfl, ⟨ep, ec, hs, unhide Z3⟩, unhide A3⟩)
          go_wp2
          go_ret
          exact unhide FE
end
end Go.Proofs.YtijcpmbfhfppmaaGreatDoor
