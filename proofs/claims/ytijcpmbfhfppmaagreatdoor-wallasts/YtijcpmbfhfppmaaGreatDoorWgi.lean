/- Logs: Compact. -/
import Derived.Test.YtijcpmbfhfppmaaGreatDoorWgh
import Derived.Test.YtijcpmbfhfppmaaGreatDoorWpb
namespace Go.Proofs.YtijcpmbfhfppmaaGreatDoor
open Go.ChangeShapes Go.WideShapes Go.ChangeAt Go.RowKit
set_option linter.unusedVariables false
section
variable {Av : Nat → Prop} {base : Nat} {w w' : World} {L d M room N N' : Nat} {ss ss' : Ds} {c : Wc} {n : Nat} {ep : Option Addr} {ec : Nat} {hs : List (Option Addr × Nat)}
/-- The content behind an index. -/
theorem comp_ok {k : Nat} {t : Int} (hk : WOk c) (hi : Ix c) (h1 : c.bi < k) (h2 : k ≤ c.bi + c.es.length) (ht : t = ((c.es.getD (((k : Nat) : Int) - (c.bi : Int) - 1).toNat default).2.1 : Int)) : WOk ⟨k, t.toNat, c.ht, c.hv, c.es.drop (k - c.bi)⟩ ∧ Ix ⟨k, t.toNat, c.ht, c.hv, c.es.drop (k - c.bi)⟩ ∧ (t.toNat : Int) = t := by
  have hj : (((k : Nat) : Int) - (c.bi : Int) - 1).toNat = k - c.bi - 1 := by omega
  have hjl : k - c.bi - 1 < c.es.length := by omega
  rw [hj, List.getD_eq_getElem?_getD, List.getElem?_eq_getElem hjl, Option.getD_some] at ht
  have he := hk.es _ (List.getElem_mem hjl)
  have hx := hi _ hjl
  obtain ⟨_, ⟨t1, t2⟩, ⟨i1, i2⟩, _⟩ := he
  refine ⟨⟨by simp only; omega, by simp only; omega, hk.ht, hk.hv, fun e he => hk.es e (List.mem_of_mem_drop he)⟩, fun j hj2 => ?_, by omega⟩
  simp only [List.length_drop] at hj2
  simp only [List.getElem_drop]
  have := hi (k - c.bi + j) (by omega)
  omega
set_option maxRecDepth 20000 in
set_option maxHeartbeats 16000000 in
theorem compact_calls (z : WAt Av base w L d M room N ss c n ep ec hs) (hN : N + 1 ≤ 1000000) (hix : Ix c) (i : Int) (hi : -9223372036854775808 ≤ i ∧ i ≤ 9223372036854775807) :
    Calls Tryz.prog 30 #[.pointer (some ⟨L, 0, none⟩), .int .i64 i] w (LgEnd Av base L d M room (N + 1) w (wCompact room n c i ss)) := by
  have WC := hide (show wCompact room n c i ss = (if (termW c i).2 = false then (2, ss, c, n)
    else if i = (c.bi : Int) then (0, ss, c, n)
    else wNew room n c ⟨i.toNat, (termW c i).1.toNat, c.ht, c.hv, c.es.drop (i.toNat - c.bi)⟩ ss) from rfl)
  generalize wCompact room n c i ss = wc at *
  have TC := hide (term_calls z.lg 1 rfl z.ok.bi (by have := z.le; omega) z.ow i hi)
  have Z := hide z
  have HX := hide hix
  have FS := hide (show ∀ (r : Nat) W, Below w.heap.size w W → LgEnd Av base L d M room (N + 1) w (r, ss, c, n) (.returned (.int .i64 (r : Int))) W from fun r W u => ⟨rfl, ⟨ep, ec, hs, (z.later u).monoN (by omega) hN⟩, (z.asdB u).sub (fun g hg => .inl hg)⟩)
  have TW := hide (show termW c i = (if i = (c.bi : Int) then ((c.bt : Int), true) else if (c.bi : Int) < i ∧ i ≤ ((c.bi + c.es.length : Nat) : Int) then (((c.es.getD (i - (c.bi : Int) - 1).toNat default).2.1 : Int), true) else (0, false)) from rfl)
  clear z hix
  cases htw : termW c i with
  | mk t ok =>
  rw [htw] at WC TC TW
  dsimp only at WC TC
  clear htw
  cases ok with
  | false =>
    rw [if_pos rfl] at WC
    go_enter Tryz.func30, Tryz.ntmps30
    go_wp2_with fail
    go_at_call 58
    refine (unhide TC).mono ?_
    rintro e V1 ⟨rfl, v1⟩
    have FE := hide (unhide FS 2 V1 v1)
    clear v1
    go_wp2
    go_ret
    rw [unhide WC]
    exact unhide FE
  | true =>
    rw [if_neg (by simp)] at WC
    go_enter Tryz.func30, Tryz.ntmps30
    go_wp2_with fail
    go_at_call 58
    refine (unhide TC).mono ?_
    rintro e V1 ⟨rfl, v1⟩
    have U1 := hide v1
    have Z1 := hide ((unhide Z).later v1)
    have l1 : V1.cell? ⟨L, 1, none⟩ = some (.int .i64 (c.bi : Int)) := box_cell (unhide Z1).lg.row 1 _ rfl
    clear v1 TC
    by_cases h1 : i = (c.bi : Int)
    · rw [if_pos h1] at WC
      have h1' : (i == (c.bi : Int)) = true := by simp [h1]
      have FE := hide (unhide FS 0 V1 (unhide U1))
      clear h1
      go_wp2
      go_ret
      rw [unhide WC]
      exact unhide FE
    · rw [if_neg h1] at WC
      have tw := unhide TW
      rw [if_neg h1] at tw
      have hr : (c.bi : Int) < i ∧ i ≤ ((c.bi + c.es.length : Nat) : Int) := by
        by_cases h2 : (c.bi : Int) < i ∧ i ≤ ((c.bi + c.es.length : Nat) : Int)
        · exact h2
        · rw [if_neg h2] at tw
          cases tw
      rw [if_pos hr] at tw
      obtain ⟨k, rfl⟩ : ∃ k : Nat, i = (k : Int) := ⟨i.toNat, by omega⟩
      have tw1 := (Prod.mk.inj tw).1
      obtain ⟨ok2, ix2, htt⟩ := comp_ok (unhide Z).ok (unhide HX) (show c.bi < k by omega) (show k ≤ c.bi + c.es.length by omega) tw1
      rw [Int.toNat_natCast] at WC
      have h1' : ((k : Int) == (c.bi : Int)) = false := by simp; omega
      have hle := (unhide Z1).le
      obtain ⟨b, rfl⟩ := (unhide Z1).ow.some_ (show 0 < c.es.length by omega)
      have hcap : c.es.length ≤ ec := by
        rcases (unhide Z1).ow.row.2 with ⟨hv, _⟩ | ⟨g, cap, cur, hv, _, _, hq, _⟩
        · simp at hv
        · simp only [Value.slice.injEq] at hv
          omega
      have U2 := hide (show Below V1.heap.size V1 V1.drew from (Below.refl _ _).drew)
      have Z2 := hide ((unhide Z1).later (unhide U2))
      have CL := hide (cloneE_calls (k := k - c.bi) (x := if ec = k - c.bi then 0 else (k - c.bi) * 4) (m := c.es.length - (k - c.bi)) (cc := ec - (k - c.bi)) (unhide Z2).ow (by omega) rfl (fun h => by rw [if_neg (by omega)]) (by omega) (unhide Z2).dk.le)
      have RS := fun u => run_slice_lE b c.es.length ec (k - c.bi) (by omega) u
      have hwr : IntKind.i64.wrap ((k : Int) - (c.bi : Int)) = ((k - c.bi : Nat) : Int) := by
        rw [IntKind.wrap_i64]
        have := (unhide Z).ok.bi
        have := ok2.bi
        omega
      have d1 : V1.drew.cell? ⟨L, 1, none⟩ = some (.int .i64 (c.bi : Int)) := l1
      have d5 : V1.drew.cell? ⟨L, 5, none⟩ = some (.slice (some ⟨b, 0, none⟩) c.es.length ec) := box_cell (unhide Z2).lg.row 5 _ rfl
      have OK2 := hide ok2
      have TT := hide htt
      have HB := hide (show c.bi < k ∧ k ≤ c.bi + c.es.length by omega)
      have ML := hide (show (c.es.drop (k - c.bi)).length = c.es.length - (k - c.bi) from List.length_drop)
      have LE2 := hide (show (c.es.drop (k - c.bi)).length ≤ 1000000 by rw [List.length_drop]; omega)
      clear tw tw1 hr h1 TW ok2 ix2 hcap htt
      generalize k - c.bi = q at *
      generalize (if ec = q then 0 else q * 4) = x at *
      generalize c.es.length - q = m at *
      generalize ec - q = cc at *
      go_wp2_with fail
      refine wp_region_held_drew (S := fun w' => w'.cell? ⟨L, 1, none⟩ = some (.int .i64 (c.bi : Int)) ∧ w'.cell? ⟨L, 5, none⟩ = some (.slice (some ⟨b, 0, none⟩) c.es.length ec)) (by kernel_rfl) ?_ (fun hHeld => ?_)
      · try dsimp only
        first | exact ⟨d1, d5⟩ | exact ⟨g1, g5⟩
      refine held_take 0 (oi := { dst := some 28, op := Op.move (Operand.tmp 0), type := 39, pos := "wal.go:102", after := #[], guard := none }) (v := ?_) (by kernel_rfl) rfl (by rfl) (by kernel_rfl) (by kernel_rfl) (fun _ _ _ h => h) ?_ (by assumption) ?_
      rotate_left
      · (intro w hSw; (try dsimp only at hSw); go_simp; try with_reducible rfl)
      try simp only [Act.put, List.setIfInBounds_toArray, List.set_cons_zero, List.set_cons_succ]
      refine held_take 1 (oi := { dst := some 29, op := Op.nilCheck (Operand.tmp 28), type := 0, pos := "wal.go:102", after := #[{ on := 0, ground := Ground.data }], guard := none }) (v := ?_) (by kernel_rfl) rfl (by rfl) (by kernel_rfl) (by kernel_rfl) (fun _ _ _ h => h) ?_ (by assumption) ?_
      rotate_left
      · (intro w hSw; (try dsimp only at hSw); go_simp; try with_reducible rfl)
      try simp only [Act.put, List.setIfInBounds_toArray, List.set_cons_zero, List.set_cons_succ]
      refine held_take 2 (oi := { dst := some 30, op := Op.fieldAddr 96 (Operand.tmp 29) 1, type := 0, pos := "wal.go:102", after := #[{ on := 1, ground := Ground.data }], guard := none }) (v := ?_) (by kernel_rfl) rfl (by rfl) (by kernel_rfl) (by kernel_rfl) (fun _ _ _ h => h) ?_ (by assumption) ?_
      rotate_left
      · (intro w hSw; (try dsimp only at hSw); go_simp; try with_reducible rfl)
      try simp only [Act.put, List.setIfInBounds_toArray, List.set_cons_zero, List.set_cons_succ]
      refine held_take 3 (oi := { dst := some 31, op := Op.fieldAddr 94 (Operand.tmp 30) 2, type := 0, pos := "wal.go:102", after := #[{ on := 2, ground := Ground.data }], guard := none }) (v := ?_) (by kernel_rfl) rfl (by rfl) (by kernel_rfl) (by kernel_rfl) (fun _ _ _ h => h) ?_ (by assumption) ?_
      rotate_left
      · (intro w hSw; (try dsimp only at hSw); go_simp; try with_reducible rfl)
      try simp only [Act.put, List.setIfInBounds_toArray, List.set_cons_zero, List.set_cons_succ]
      refine held_take 4 (oi := { dst := some 32, op := Op.load 27 (Operand.tmp 31), type := 27, pos := "wal.go:102", after := #[{ on := 3, ground := Ground.data }], guard := none }) (v := ?_) (by kernel_rfl) rfl (by rfl) (by kernel_rfl) (by kernel_rfl) (fun _ _ _ h => h) ?_ (by assumption) ?_
      rotate_left
      · (intro w hSw; (try dsimp only at hSw); go_simp; try with_reducible rfl)
      try simp only [Act.put, List.setIfInBounds_toArray, List.set_cons_zero, List.set_cons_succ]
      refine held_take 5 (oi := { dst := some 33, op := Op.move (Operand.tmp 1), type := 3, pos := "wal.go:102", after := #[], guard := none }) (v := ?_) (by kernel_rfl) rfl (by rfl) (by kernel_rfl) (by kernel_rfl) (fun _ _ _ h => h) ?_ (by assumption) ?_
      rotate_left
      · (intro w hSw; (try dsimp only at hSw); go_simp; try with_reducible rfl)
      try simp only [Act.put, List.setIfInBounds_toArray, List.set_cons_zero, List.set_cons_succ]
      refine held_take 6 (oi := { dst := some 34, op := Op.move (Operand.tmp 0), type := 39, pos := "wal.go:102", after := #[], guard := none }) (v := ?_) (by kernel_rfl) rfl (by rfl) (by kernel_rfl) (by kernel_rfl) (fun _ _ _ h => h) ?_ (by assumption) ?_
      rotate_left
      · (intro w hSw; (try dsimp only at hSw); go_simp; try with_reducible rfl)
      try simp only [Act.put, List.setIfInBounds_toArray, List.set_cons_zero, List.set_cons_succ]
      refine held_take 7 (oi := { dst := some 35, op := Op.nilCheck (Operand.tmp 34), type := 0, pos := "wal.go:102", after := #[{ on := 6, ground := Ground.data }], guard := none }) (v := ?_) (by kernel_rfl) rfl (by rfl) (by kernel_rfl) (by kernel_rfl) (fun _ _ _ h => h) ?_ (by assumption) ?_
      rotate_left
      · (intro w hSw; (try dsimp only at hSw); go_simp; try with_reducible rfl)
      try simp only [Act.put, List.setIfInBounds_toArray, List.set_cons_zero, List.set_cons_succ]
      refine held_take 8 (oi := { dst := some 36, op := Op.fieldAddr 96 (Operand.tmp 35) 1, type := 0, pos := "wal.go:102", after := #[{ on := 7, ground := Ground.data }], guard := none }) (v := ?_) (by kernel_rfl) rfl (by rfl) (by kernel_rfl) (by kernel_rfl) (fun _ _ _ h => h) ?_ (by assumption) ?_
      rotate_left
      · (intro w hSw; (try dsimp only at hSw); go_simp; try with_reducible rfl)
      try simp only [Act.put, List.setIfInBounds_toArray, List.set_cons_zero, List.set_cons_succ]
      refine held_take 9 (oi := { dst := some 37, op := Op.fieldAddr 94 (Operand.tmp 36) 0, type := 0, pos := "wal.go:102", after := #[{ on := 8, ground := Ground.data }], guard := none }) (v := ?_) (by kernel_rfl) rfl (by rfl) (by kernel_rfl) (by kernel_rfl) (fun _ _ _ h => h) ?_ (by assumption) ?_
      rotate_left
      · (intro w hSw; (try dsimp only at hSw); go_simp; try with_reducible rfl)
      try simp only [Act.put, List.setIfInBounds_toArray, List.set_cons_zero, List.set_cons_succ]
      refine held_take 10 (oi := { dst := some 38, op := Op.fieldAddr 31 (Operand.tmp 37) 0, type := 0, pos := "wal.go:102", after := #[{ on := 9, ground := Ground.data }], guard := none }) (v := ?_) (by kernel_rfl) rfl (by rfl) (by kernel_rfl) (by kernel_rfl) (fun _ _ _ h => h) ?_ (by assumption) ?_
      rotate_left
      · (intro w hSw; (try dsimp only at hSw); go_simp; try with_reducible rfl)
      try simp only [Act.put, List.setIfInBounds_toArray, List.set_cons_zero, List.set_cons_succ]
      refine held_take 11 (oi := { dst := some 39, op := Op.load 3 (Operand.tmp 38), type := 3, pos := "wal.go:102", after := #[{ on := 10, ground := Ground.data }], guard := none }) (v := ?_) (by kernel_rfl) rfl (by rfl) (by kernel_rfl) (by kernel_rfl) (fun _ _ _ h => h) ?_ (by assumption) ?_
      rotate_left
      · (intro w hSw; (try dsimp only at hSw); go_simp; try with_reducible rfl)
      try simp only [Act.put, List.setIfInBounds_toArray, List.set_cons_zero, List.set_cons_succ]
      refine held_take 12 (oi := { dst := some 40, op := Op.binOp BinOp.sub 3 (Operand.tmp 33) (Operand.tmp 39) 3, type := 3, pos := "wal.go:102", after := #[{ on := 5, ground := Ground.data }, { on := 11, ground := Ground.data }], guard := none }) (v := ?_) (by kernel_rfl) rfl (by rfl) (by kernel_rfl) (by kernel_rfl) (fun _ _ _ h => h) ?_ (by assumption) ?_
      rotate_left
      · (intro w hSw; (try dsimp only at hSw); go_simp; try with_reducible rfl)
      try simp only [Act.put, List.setIfInBounds_toArray, List.set_cons_zero, List.set_cons_succ]
      refine held_take 13 (oi := { dst := some 41, op := Op.slice 27 (Operand.tmp 32) (some (Operand.tmp 40)) none none, type := 27, pos := "wal.go:102", after := #[{ on := 4, ground := Ground.data }, { on := 12, ground := Ground.data }], guard := none }) (v := ?_) (by kernel_rfl) rfl (by rfl) (by kernel_rfl) (by kernel_rfl) (fun _ _ _ h => h) ?_ (by assumption) ?_
      rotate_left
      · (intro w hSw; (try dsimp only at hSw); go_simp; try with_reducible rfl)
      try simp only [Act.put, List.setIfInBounds_toArray, List.set_cons_zero, List.set_cons_succ]
      refine held_one 14 (oi := { dst := some 42, op := Op.call { callee := Callee.value (Operand.func 70), args := #[Operand.tmp 41], argTypes := #[27] }, type := 27, pos := "wal.go:102", after := #[{ on := 13, ground := Ground.data }], guard := none }) (by kernel_rfl) rfl (fun K hK => ?_)
      go_simp
      first
        | (go_at_call 70
           refine (unhide CL).mono ?_
           rintro e V3 ⟨g, c3, rfl, o3, v3, hg3⟩
           have g1 := cell_later v3 d1
           have g5 := cell_later v3 d5
           have O3 := hide o3
           have U3 := hide v3
           have G3 := hide hg3
           clear o3 v3 hg3)
      go_wp2_with fail
      refine hK.out _ _ ?_ (fun hHeld => ?_)
      · try dsimp only
        first | exact ⟨d1, d5⟩ | exact ⟨g1, g5⟩
      clear hK K
      try simp only [Act.put, List.setIfInBounds_toArray, List.set_cons_zero, List.set_cons_succ]
      refine held_take 15 (oi := { dst := some 7, op := Op.assign (Operand.tmp 42), type := 27, pos := "wal.go:102", after := #[{ on := 14, ground := Ground.data }, { on := 14, ground := Ground.chain }, { on := 0, ground := Ground.phase }, { on := 1, ground := Ground.phase }, { on := 2, ground := Ground.phase }, { on := 3, ground := Ground.phase }, { on := 4, ground := Ground.phase }, { on := 5, ground := Ground.phase }, { on := 6, ground := Ground.phase }, { on := 7, ground := Ground.phase }, { on := 8, ground := Ground.phase }, { on := 9, ground := Ground.phase }, { on := 10, ground := Ground.phase }, { on := 11, ground := Ground.phase }, { on := 12, ground := Ground.phase }, { on := 13, ground := Ground.phase }, { on := 14, ground := Ground.phase }], guard := none }) (v := ?_) (by kernel_rfl) rfl (by rfl) (by kernel_rfl) (by kernel_rfl) (fun _ _ _ h => h) ?_ (by assumption) ?_
      rotate_left
      · (intro w hSw; (try dsimp only at hSw); go_simp; try with_reducible rfl)
      try simp only [Act.put, List.setIfInBounds_toArray, List.set_cons_zero, List.set_cons_succ]
      refine wpAnyH_done (by kernel_rfl) ?_ _
      have U4 := hide (((unhide U1).trans ((unhide U2).mono (unhide U1).size)).trans ((unhide U3).mono (Nat.le_trans (unhide U1).size (unhide U2).size)))
      have Z4 := hide ((unhide Z).more (unhide U4))
      have S4 := hide (show w.heap.size ≤ V1.heap.size from (unhide U1).size)
      have A4 := hide (((unhide Z).asdB (unhide U4)).sub (Bv := Av) (fun g hg => .inl hg))
      have FT := hide (show ∀ y, LFoot (some ⟨g, 0, none⟩) (hs.drop q) y → (Av y ∨ (w.heap.size ≤ y ∧ y < V3.heap.size)) ∨ LFoot (some ⟨b, 0, none⟩) hs y from fun y hy => by
        rcases hy with hy | ⟨u, hu, hy⟩
        · left; right
          cases hy
          exact ⟨Nat.le_trans (unhide S4) (unhide G3), ((unhide O3).foot g (.inl rfl)).2.1⟩
        · exact .inr (.inr ⟨u, List.mem_of_mem_drop hu, hy⟩))
      have AC := hide (wanew_calls (c2 := ⟨k, t.toNat, c.ht, c.hv, c.es.drop q⟩) (unhide Z4) hN (unhide O3) (unhide FT) (unhide OK2) (unhide LE2))
      have FL := hide (show ∀ e W, AnEnd (fun g => Av g ∨ (w.heap.size ≤ g ∧ g < V3.heap.size)) base L d M room (N + 1) V3 c n (some ⟨b, 0, none⟩) ec hs ⟨k, t.toNat, c.ht, c.hv, c.es.drop q⟩ (some ⟨g, 0, none⟩) c3 (hs.drop q) (wAnew room n (allB ⟨k, t.toNat, c.ht, c.hv, c.es.drop q⟩) ss) e W → LgEnd Av base L d M room (N + 1) w (wNew room n c ⟨k, t.toNat, c.ht, c.hv, c.es.drop q⟩ ss) e W from fun e W h => AnEnd.lg (unhide A4) (fun y hy => ⟨.inl hy, fun hf => by
        rcases hf with hf | ⟨u, hu, hf⟩
        · obtain rfl : g = y := Option.some.inj (show some g = some y from hf)
          have h1 := (unhide Z).dk.lt (.inl hy)
          have h2 := unhide S4
          have h3 := unhide G3
          have h4 := (unhide U2).size
          omega
        · exact ((unhide Z).av y hy).2 (.inr ⟨u, List.mem_of_mem_drop hu, hf⟩)⟩) h)
      dsimp only at AC
      rw [unhide TT, unhide ML] at AC
      have l3 : V3.cell? ⟨L, 3, none⟩ = some (.int .i64 (c.ht : Int)) := box_cell (unhide Z4).lg.row 3 _ rfl
      have l4 : V3.cell? ⟨L, 4, none⟩ = some (.int .i64 (c.hv : Int)) := box_cell (unhide Z4).lg.row 4 _ rfl
      generalize wNew room n c ⟨k, t.toNat, c.ht, c.hv, c.es.drop q⟩ ss = wn at *
      generalize wAnew room n (allB ⟨k, t.toNat, c.ht, c.hv, c.es.drop q⟩) ss = r6 at *
      clear d1 d5 g1 g5
      go_wp2_with fail
      go_at_call 63
      refine (unhide AC).mono ?_
      rintro e V6 hA
      have FE := hide (unhide FL _ _ hA)
      obtain ⟨rfl, a6, y6, n6⟩ := hA
      clear a6 y6 n6 AC
      go_wp2
      go_ret
      rw [unhide WC]
      exact unhide FE
end
end Go.Proofs.YtijcpmbfhfppmaaGreatDoor
