/- Logs: Compact. -/
import Derived.Test.YtijcpmbfhfppmaaGreatDoorB30
import Derived.Test.YtijcpmbfhfppmaaGreatDoorB28
import Derived.Test.YtijcpmbfhfppmaaGreatDoorB29
section
namespace Go.Proofs.YtijcpmbfhfppmaaGreatDoor
open Go.ChangeShapes Go.WideShapes Go.ChangeAt Go.RowKit
set_option linter.unusedVariables false
section
variable {Av : Nat → Prop} {base : Nat} {w w' : World} {L d M room N N' : Nat} {ss ss' : Ds} {c : Wc} {n : Nat} {ep : Option Addr} {ec : Nat} {hs : List (Option Addr × Nat)}
/-- The content behind an index. -/
theorem comp_ok {k : Nat} {t : Int} (hk : WOk c) (hi : Ix c) (h1 : c.bi < k) (h2 : k ≤ c.bi + c.es.length) (ht : t = ((c.es.getD (((k : Nat) : Int) - (c.bi : Int) - 1).toNat default).2.1 : Int)) : WOk ⟨k, t.toNat, c.ht, c.hv, c.es.drop (k - c.bi)⟩ ∧ Ix ⟨k, t.toNat, c.ht, c.hv, c.es.drop (k - c.bi)⟩ ∧ (t.toNat : Int) = t := by
  have hj : (((k : Nat) : Int) - (c.bi : Int) - 1).toNat = k - c.bi - 1 := by omega
  have hjl : k - c.bi - 1 < c.es.length := by omega
  rw [hj, List.getD_eq_getElem?_getD, List.getElem?_eq_getElem hjl, Option.getD_some] at ht
  have he := hk.es _ (List.getElem_mem hjl)
  have hx := hi _ hjl
  obtain ⟨_, ⟨t1, t2⟩, ⟨i1, i2⟩, _⟩ := he
  refine ⟨⟨by simp only; omega, by simp only; omega, hk.ht, hk.hv, fun e he => hk.es e (List.mem_of_mem_drop he)⟩, fun j hj2 => ?_, by omega⟩
  simp only [List.length_drop] at hj2
  simp only [List.getElem_drop]
  have := hi (k - c.bi + j) (by omega)
  omega
set_option maxRecDepth 20000 in
set_option maxHeartbeats 16000000 in
theorem compact_calls (z : WAt Av base w L d M room N ss c n ep ec hs) (hN : N + 1 ≤ 1000000) (hix : Ix c) (i : Int) (hi : -9223372036854775808 ≤ i ∧ i ≤ 9223372036854775807) :
    Calls Tryz.prog 30 #[.pointer (some ⟨L, 0, none⟩), .int .i64 i] w (LgEnd Av base L d M room (N + 1) w (wCompact room n c i ss)) := by
  have WC := hide (show wCompact room n c i ss = (if (termW c i).2 = false then (2, ss, c, n)
    else if i = (c.bi : Int) then (0, ss, c, n)
    else wNew room n c ⟨i.toNat, (termW c i).1.toNat, c.ht, c.hv, c.es.drop (i.toNat - c.bi)⟩ ss) from rfl)
  generalize wCompact room n c i ss = wc at *
  have TC := hide (term_calls z.lg 1 rfl z.ok.bi (by have := z.le; omega) z.ow i hi)
  have Z := hide z
  have HX := hide hix
  have FS := hide (show ∀ (r : Nat) W, Below w.heap.size w W → LgEnd Av base L d M room (N + 1) w (r, ss, c, n) (.returned (.int .i64 (r : Int))) W from fun r W u => ⟨rfl, ⟨ep, ec, hs, (z.later u).monoN (by omega) hN⟩, (z.asdB u).sub (fun g hg => .inl hg)⟩)
  have TW := hide (show termW c i = (if i = (c.bi : Int) then ((c.bt : Int), true) else if (c.bi : Int) < i ∧ i ≤ ((c.bi + c.es.length : Nat) : Int) then (((c.es.getD (i - (c.bi : Int) - 1).toNat default).2.1 : Int), true) else (0, false)) from rfl)
  clear z hix
  cases htw : termW c i with
  | mk t ok =>
  rw [htw] at WC TC TW
  dsimp only at WC TC
  clear htw
  cases ok with
  | false =>
    rw [if_pos rfl] at WC
    go_enter Tryz.func30, Tryz.ntmps30
    go_wp2_with fail
    go_at_call 58
    refine (unhide TC).mono ?_
    rintro e V1 ⟨rfl, v1⟩
    have FE := hide (unhide FS 2 V1 v1)
    clear v1
    go_wp2
    go_ret
    rw [unhide WC]
    exact unhide FE
  | true =>
    rw [if_neg (by simp)] at WC
    go_enter Tryz.func30, Tryz.ntmps30
    go_wp2_with fail
    go_at_call 58
    refine (unhide TC).mono ?_
    rintro e V1 ⟨rfl, v1⟩
    have U1 := hide v1
    have Z1 := hide ((unhide Z).later v1)
    have l1 : V1.cell? ⟨L, 1, none⟩ = some (.int .i64 (c.bi : Int)) := box_cell (unhide Z1).lg.row 1 _ rfl
    clear v1 TC
    by_cases h1 : i = (c.bi : Int)
    · rw [if_pos h1] at WC
      have h1' : (i == (c.bi : Int)) = true := by simp [h1]
      have FE := hide (unhide FS 0 V1 (unhide U1))
      clear h1
      go_wp2
      go_ret
      rw [unhide WC]
      exact unhide FE
    · rw [if_neg h1] at WC
      have tw := unhide TW
      rw [if_neg h1] at tw
      have hr : (c.bi : Int) < i ∧ i ≤ ((c.bi + c.es.length : Nat) : Int) := by
        by_cases h2 : (c.bi : Int) < i ∧ i ≤ ((c.bi + c.es.length : Nat) : Int)
        · exact h2
        · rw [if_neg h2] at tw
          cases tw
      rw [if_pos hr] at tw
      obtain ⟨k, rfl⟩ : ∃ k : Nat, i = (k : Int) := ⟨i.toNat, by omega⟩
      have tw1 := (Prod.mk.inj tw).1
      obtain ⟨ok2, ix2, htt⟩ := comp_ok (unhide Z).ok (unhide HX) (show c.bi < k by omega) (show k ≤ c.bi + c.es.length by omega) tw1
      rw [Int.toNat_natCast] at WC
      have h1' : ((k : Int) == (c.bi : Int)) = false := by simp; omega
      have hle := (unhide Z1).le
      obtain ⟨b, rfl⟩ := (unhide Z1).ow.some_ (show 0 < c.es.length by omega)
      have hcap : c.es.length ≤ ec := by
        rcases (unhide Z1).ow.row.2 with ⟨hv, _⟩ | ⟨g, cap, cur, hv, _, _, hq, _⟩
        · simp at hv
        · simp only [Value.slice.injEq] at hv
          omega
      have U2 := hide (show Below V1.heap.size V1 V1.drew from (Below.refl _ _).drew)
      have Z2 := hide ((unhide Z1).later (unhide U2))
      have CL := hide (cloneE_calls (k := k - c.bi) (x := if ec = k - c.bi then 0 else (k - c.bi) * 4) (m := c.es.length - (k - c.bi)) (cc := ec - (k - c.bi)) (unhide Z2).ow (by omega) rfl (fun h => by rw [if_neg (by omega)]) (by omega) (unhide Z2).dk.le)
      have RS := fun u => run_slice_lE b c.es.length ec (k - c.bi) (by omega) u
      have hwr : IntKind.i64.wrap ((k : Int) - (c.bi : Int)) = ((k - c.bi : Nat) : Int) := by
        rw [IntKind.wrap_i64]
        have := (unhide Z).ok.bi
        have := ok2.bi
        omega
      have d1 : V1.drew.cell? ⟨L, 1, none⟩ = some (.int .i64 (c.bi : Int)) := l1
      have d5 : V1.drew.cell? ⟨L, 5, none⟩ = some (.slice (some ⟨b, 0, none⟩) c.es.length ec) := box_cell (unhide Z2).lg.row 5 _ rfl
      have OK2 := hide ok2
      have TT := hide htt
      have HB := hide (show c.bi < k ∧ k ≤ c.bi + c.es.length by omega)
      have ML := hide (show (c.es.drop (k - c.bi)).length = c.es.length - (k - c.bi) from List.length_drop)
      have LE2 := hide (show (c.es.drop (k - c.bi)).length ≤ 1000000 by rw [List.length_drop]; omega)
      clear tw tw1 hr h1 TW ok2 ix2 hcap htt
      generalize k - c.bi = q at *
      generalize (if ec = q then 0 else q * 4) = x at *
      generalize c.es.length - q = m at *
      generalize ec - q = cc at *
      go_wp2_with fail
      refine wp_region_held_drew (S := fun w' => w'.cell? ⟨L, 1, none⟩ = some (.int .i64 (c.bi : Int)) ∧ w'.cell? ⟨L, 5, none⟩ = some (.slice (some ⟨b, 0, none⟩) c.es.length ec)) (by kernel_rfl) ?_ (fun hHeld => ?_)
      · try dsimp only
        first | exact ⟨d1, d5⟩ | exact ⟨g1, g5⟩
      refine held_take 0 (oi := { dst := some 28, op := Op.move (Operand.tmp 0), type := 39, pos := "wal.go:102", after := #[], guard := none }) (v := ?_) (by kernel_rfl) rfl (by rfl) (by kernel_rfl) (by kernel_rfl) (fun _ _ _ h => h) ?_ (by assumption) ?_
      rotate_left
      · (intro w hSw; (try dsimp only at hSw); go_simp; try with_reducible rfl)
      try simp only [Act.put, List.setIfInBounds_toArray, List.set_cons_zero, List.set_cons_succ]
      refine held_take 1 (oi := { dst := some 29, op := Op.nilCheck (Operand.tmp 28), type := 0, pos := "wal.go:102", after := #[{ on := 0, ground := Ground.data }], guard := none }) (v := ?_) (by kernel_rfl) rfl (by rfl) (by kernel_rfl) (by kernel_rfl) (fun _ _ _ h => h) ?_ (by assumption) ?_
      rotate_left
      · (intro w hSw; (try dsimp only at hSw); go_simp; try with_reducible rfl)
      try simp only [Act.put, List.setIfInBounds_toArray, List.set_cons_zero, List.set_cons_succ]
      refine held_take 2 (oi := { dst := some 30, op := Op.fieldAddr 96 (Operand.tmp 29) 1, type := 0, pos := "wal.go:102", after := #[{ on := 1, ground := Ground.data }], guard := none }) (v := ?_) (by kernel_rfl) rfl (by rfl) (by kernel_rfl) (by kernel_rfl) (fun _ _ _ h => h) ?_ (by assumption) ?_
      rotate_left
      · (intro w hSw; (try dsimp only at hSw); go_simp; try with_reducible rfl)
      try simp only [Act.put, List.setIfInBounds_toArray, List.set_cons_zero, List.set_cons_succ]
      refine held_take 3 (oi := { dst := some 31, op := Op.fieldAddr 94 (Operand.tmp 30) 2, type := 0, pos := "wal.go:102", after := #[{ on := 2, ground := Ground.data }], guard := none }) (v := ?_) (by kernel_rfl) rfl (by rfl) (by kernel_rfl) (by kernel_rfl) (fun _ _ _ h => h) ?_ (by assumption) ?_
      rotate_left
      · (intro w hSw; (try dsimp only at hSw); go_simp; try with_reducible rfl)
      try simp only [Act.put, List.setIfInBounds_toArray, List.set_cons_zero, List.set_cons_succ]
      refine held_take 4 (oi := { dst := some 32, op := Op.load 27 (Operand.tmp 31), type := 27, pos := "wal.go:102", after := #[{ on := 3, ground := Ground.data }], guard := none }) (v := ?_) (by kernel_rfl) rfl (by rfl) (by kernel_rfl) (by kernel_rfl) (fun _ _ _ h => h) ?_ (by assumption) ?_
      rotate_left
      · (intro w hSw; (try dsimp only at hSw); go_simp; try with_reducible rfl)
      try simp only [Act.put, List.setIfInBounds_toArray, List.set_cons_zero, List.set_cons_succ]
      refine held_take 5 (oi := { dst := some 33, op := Op.move (Operand.tmp 1), type := 3, pos := "wal.go:102", after := #[], guard := none }) (v := ?_) (by kernel_rfl) rfl (by rfl) (by kernel_rfl) (by kernel_rfl) (fun _ _ _ h => h) ?_ (by assumption) ?_
      rotate_left
      · (intro w hSw; (try dsimp only at hSw); go_simp; try with_reducible rfl)
      try simp only [Act.put, List.setIfInBounds_toArray, List.set_cons_zero, List.set_cons_succ]
      refine held_take 6 (oi := { dst := some 34, op := Op.move (Operand.tmp 0), type := 39, pos := "wal.go:102", after := #[], guard := none }) (v := ?_) (by kernel_rfl) rfl (by rfl) (by kernel_rfl) (by kernel_rfl) (fun _ _ _ h => h) ?_ (by assumption) ?_
      rotate_left
      · (intro w hSw; (try dsimp only at hSw); go_simp; try with_reducible rfl)
      try simp only [Act.put, List.setIfInBounds_toArray, List.set_cons_zero, List.set_cons_succ]
      refine held_take 7 (oi := { dst := some 35, op := Op.nilCheck (Operand.tmp 34), type := 0, pos := "wal.go:102", after := #[{ on := 6, ground := Ground.data }], guard := none }) (v := ?_) (by kernel_rfl) rfl (by rfl) (by kernel_rfl) (by kernel_rfl) (fun _ _ _ h => h) ?_ (by assumption) ?_
      rotate_left
      · (intro w hSw; (try dsimp only at hSw); go_simp; try with_reducible rfl)
      try simp only [Act.put, List.setIfInBounds_toArray, List.set_cons_zero, List.set_cons_succ]
      refine held_take 8 (oi := { dst := some 36, op := Op.fieldAddr 96 (Operand.tmp 35) 1, type := 0, pos := "wal.go:102", after := #[{ on := 7, ground := Ground.data }], guard := none }) (v := ?_) (by kernel_rfl) rfl (by rfl) (by kernel_rfl) (by kernel_rfl) (fun _ _ _ h => h) ?_ (by assumption) ?_
      rotate_left
      · (intro w hSw; (try dsimp only at hSw); go_simp; try with_reducible rfl)
      try simp only [Act.put, List.setIfInBounds_toArray, List.set_cons_zero, List.set_cons_succ]
      refine held_take 9 (oi := { dst := some 37, op := Op.fieldAddr 94 (Operand.tmp 36) 0, type := 0, pos := "wal.go:102", after := #[{ on := 8, ground := Ground.data }], guard := none }) (v := ?_) (by kernel_rfl) rfl (by rfl) (by kernel_rfl) (by kernel_rfl) (fun _ _ _ h => h) ?_ (by assumption) ?_
      rotate_left
      · (intro w hSw; (try dsimp only at hSw); go_simp; try with_reducible rfl)
      try simp only [Act.put, List.setIfInBounds_toArray, List.set_cons_zero, List.set_cons_succ]
      refine held_take 10 (oi := { dst := some 38, op := Op.fieldAddr 31 (Operand.tmp 37) 0, type := 0, pos := "wal.go:102", after := #[{ on := 9, ground := Ground.data }], guard := none }) (v := ?_) (by kernel_rfl) rfl (by rfl) (by kernel_rfl) (by kernel_rfl) (fun _ _ _ h => h) ?_ (by assumption) ?_
      rotate_left
      · (intro w hSw; (try dsimp only at hSw); go_simp; try with_reducible rfl)
      try simp only [Act.put, List.setIfInBounds_toArray, List.set_cons_zero, List.set_cons_succ]
      refine held_take 11 (oi := { dst := some 39, op := Op.load 3 (Operand.tmp 38), type := 3, pos := "wal.go:102", after := #[{ on := 10, ground := Ground.data }], guard := none }) (v := ?_) (by kernel_rfl) rfl (by rfl) (by kernel_rfl) (by kernel_rfl) (fun _ _ _ h => h) ?_ (by assumption) ?_
      rotate_left
      · (intro w hSw; (try dsimp only at hSw); go_simp; try with_reducible rfl)
      try simp only [Act.put, List.setIfInBounds_toArray, List.set_cons_zero, List.set_cons_succ]
      refine held_take 12 (oi := { dst := some 40, op := Op.binOp BinOp.sub 3 (Operand.tmp 33) (Operand.tmp 39) 3, type := 3, pos := "wal.go:102", after := #[{ on := 5, ground := Ground.data }, { on := 11, ground := Ground.data }], guard := none }) (v := ?_) (by kernel_rfl) rfl (by rfl) (by kernel_rfl) (by kernel_rfl) (fun _ _ _ h => h) ?_ (by assumption) ?_
      rotate_left
      · (intro w hSw; (try dsimp only at hSw); go_simp; try with_reducible rfl)
      try simp only [Act.put, List.setIfInBounds_toArray, List.set_cons_zero, List.set_cons_succ]
      refine held_take 13 (oi := { dst := some 41, op := Op.slice 27 (Operand.tmp 32) (some (Operand.tmp 40)) none none, type := 27, pos := "wal.go:102", after := #[{ on := 4, ground := Ground.data }, { on := 12, ground := Ground.data }], guard := none }) (v := ?_) (by kernel_rfl) rfl (by rfl) (by kernel_rfl) (by kernel_rfl) (fun _ _ _ h => h) ?_ (by assumption) ?_
      rotate_left
      · (intro w hSw; (try dsimp only at hSw); go_simp; try with_reducible rfl)
      try simp only [Act.put, List.setIfInBounds_toArray, List.set_cons_zero, List.set_cons_succ]
      refine held_one 14 (oi := { dst := some 42, op := Op.call { callee := Callee.value (Operand.func 70), args := #[Operand.tmp 41], argTypes := #[27] }, type := 27, pos := "wal.go:102", after := #[{ on := 13, ground := Ground.data }], guard := none }) (by kernel_rfl) rfl (fun K hK => ?_)
      go_simp
      first
        | (go_at_call 70
           refine (unhide CL).mono ?_
           rintro e V3 ⟨g, c3, rfl, o3, v3, hg3⟩
           have g1 := cell_later v3 d1
           have g5 := cell_later v3 d5
           have O3 := hide o3
           have U3 := hide v3
           have G3 := hide hg3
           clear o3 v3 hg3)
      go_wp2_with fail
      refine hK.out _ _ ?_ (fun hHeld => ?_)
      · try dsimp only
        first | exact ⟨d1, d5⟩ | exact ⟨g1, g5⟩
      clear hK K
      try simp only [Act.put, List.setIfInBounds_toArray, List.set_cons_zero, List.set_cons_succ]
      refine held_take 15 (oi := { dst := some 7, op := Op.assign (Operand.tmp 42), type := 27, pos := "wal.go:102", after := #[{ on := 14, ground := Ground.data }, { on := 14, ground := Ground.chain }, { on := 0, ground := Ground.phase }, { on := 1, ground := Ground.phase }, { on := 2, ground := Ground.phase }, { on := 3, ground := Ground.phase }, { on := 4, ground := Ground.phase }, { on := 5, ground := Ground.phase }, { on := 6, ground := Ground.phase }, { on := 7, ground := Ground.phase }, { on := 8, ground := Ground.phase }, { on := 9, ground := Ground.phase }, { on := 10, ground := Ground.phase }, { on := 11, ground := Ground.phase }, { on := 12, ground := Ground.phase }, { on := 13, ground := Ground.phase }, { on := 14, ground := Ground.phase }], guard := none }) (v := ?_) (by kernel_rfl) rfl (by rfl) (by kernel_rfl) (by kernel_rfl) (fun _ _ _ h => h) ?_ (by assumption) ?_
      rotate_left
      · (intro w hSw; (try dsimp only at hSw); go_simp; try with_reducible rfl)
      try simp only [Act.put, List.setIfInBounds_toArray, List.set_cons_zero, List.set_cons_succ]
      refine wpAnyH_done (by kernel_rfl) ?_ _
      have U4 := hide (((unhide U1).trans ((unhide U2).mono (unhide U1).size)).trans ((unhide U3).mono (Nat.le_trans (unhide U1).size (unhide U2).size)))
      have Z4 := hide ((unhide Z).more (unhide U4))
      have S4 := hide (show w.heap.size ≤ V1.heap.size from (unhide U1).size)
      have A4 := hide (((unhide Z).asdB (unhide U4)).sub (Bv := Av) (fun g hg => .inl hg))
      have FT := hide (show ∀ y, LFoot (some ⟨g, 0, none⟩) (hs.drop q) y → (Av y ∨ (w.heap.size ≤ y ∧ y < V3.heap.size)) ∨ LFoot (some ⟨b, 0, none⟩) hs y from fun y hy => by
        rcases hy with hy | ⟨u, hu, hy⟩
        · left; right
          cases hy
          exact ⟨Nat.le_trans (unhide S4) (unhide G3), ((unhide O3).foot g (.inl rfl)).2.1⟩
        · exact .inr (.inr ⟨u, List.mem_of_mem_drop hu, hy⟩))
      have AC := hide (wanew_calls (c2 := ⟨k, t.toNat, c.ht, c.hv, c.es.drop q⟩) (unhide Z4) hN (unhide O3) (unhide FT) (unhide OK2) (unhide LE2))
      have FL := hide (show ∀ e W, AnEnd (fun g => Av g ∨ (w.heap.size ≤ g ∧ g < V3.heap.size)) base L d M room (N + 1) V3 c n (some ⟨b, 0, none⟩) ec hs ⟨k, t.toNat, c.ht, c.hv, c.es.drop q⟩ (some ⟨g, 0, none⟩) c3 (hs.drop q) (wAnew room n (allB ⟨k, t.toNat, c.ht, c.hv, c.es.drop q⟩) ss) e W → LgEnd Av base L d M room (N + 1) w (wNew room n c ⟨k, t.toNat, c.ht, c.hv, c.es.drop q⟩ ss) e W from fun e W h => AnEnd.lg (unhide A4) (fun y hy => ⟨.inl hy, fun hf => by
        rcases hf with hf | ⟨u, hu, hf⟩
        · obtain rfl : g = y := Option.some.inj (show some g = some y from hf)
          have h1 := (unhide Z).dk.lt (.inl hy)
          have h2 := unhide S4
          have h3 := unhide G3
          have h4 := (unhide U2).size
          omega
        · exact ((unhide Z).av y hy).2 (.inr ⟨u, List.mem_of_mem_drop hu, hf⟩)⟩) h)
      dsimp only at AC
      rw [unhide TT, unhide ML] at AC
      have l3 : V3.cell? ⟨L, 3, none⟩ = some (.int .i64 (c.ht : Int)) := box_cell (unhide Z4).lg.row 3 _ rfl
      have l4 : V3.cell? ⟨L, 4, none⟩ = some (.int .i64 (c.hv : Int)) := box_cell (unhide Z4).lg.row 4 _ rfl
      generalize wNew room n c ⟨k, t.toNat, c.ht, c.hv, c.es.drop q⟩ ss = wn at *
      generalize wAnew room n (allB ⟨k, t.toNat, c.ht, c.hv, c.es.drop q⟩) ss = r6 at *
      clear d1 d5 g1 g5
      go_wp2_with fail
      go_at_call 63
      refine (unhide AC).mono ?_
      rintro e V6 hA
      have FE := hide (unhide FL _ _ hA)
      obtain ⟨rfl, a6, y6, n6⟩ := hA
      clear a6 y6 n6 AC
      go_wp2
      go_ret
      rw [unhide WC]
      exact unhide FE
end
end Go.Proofs.YtijcpmbfhfppmaaGreatDoor
end
/- Logs: is a deed small enough to be played? -/
section
namespace Go.Proofs.YtijcpmbfhfppmaaGreatDoor
open Go.ChangeShapes Go.WideShapes Go.ChangeAt Go.RowKit
set_option linter.unusedVariables false

/-- How short ends. -/
def ShEnd (e : Wd) (w : World) (r : Ending) (w' : World) : Prop := ∃ x : Bool, r = .returned (.bool x) ∧ (x = true → sumN e.es ≤ 6000 ∧ e.keep.length ≤ 50) ∧ Below w.heap.size w w'
set_option maxRecDepth 20000 in
set_option maxHeartbeats 8000000 in
theorem short6_calls (e : Wd) (h : WdH) (w : World) (hA : WdAt w e h) : Calls Tryz.prog 15 #[.agg (wdRow e h)] w (ShEnd e w) := by
  unfold wdRow
  have U1 := hide (show Below w.heap.size w (w.alloc (.cells #[.int .i64 e.kind, .slice h.ep e.es.length h.ec, .int .i64 e.ht, .int .i64 e.hv, .int .i64 e.mi, .int .i64 e.mt, .slice h.kp e.keep.length h.kc] 34)) from (Below.refl _ _).alloc (Nat.le_refl _) _)
  have X1 := hide (heap_new w (.cells #[.int .i64 e.kind, .slice h.ep e.es.length h.ec, .int .i64 e.ht, .int .i64 e.hv, .int .i64 e.mi, .int .i64 e.mt, .slice h.kp e.keep.length h.kc] 34))
  have EA := hide (hA.en.later (unhide U1))
  have hse := hA.se
  have hsk := hA.sk
  simp only [maxLen] at hse hsk
  have FE := hide (show ∀ (x : Bool) W, (x = true → sumN e.es ≤ 6000 ∧ e.keep.length ≤ 50) → Below w.heap.size w W → ShEnd e w (.returned (.bool x)) W from fun x W h u => ⟨x, rfl, h, u⟩)
  have EQ := hide (show e.es = e.es from rfl)
  obtain ⟨es, hes⟩ : ∃ es, e.es = es := ⟨_, rfl⟩
  rw [hes] at EA FE hse U1 X1 ⊢
  generalize hlen : es.length = m at *
  have HL := hide hlen
  clear hA hes hlen EQ
  go_enter Tryz.func15, Tryz.ntmps15
  go_wp2_with fail
  generalize w.alloc _ = W1 at *
  go_loopw [3, 4] (fun v q wr => ∃ (j : Nat), j ≤ m ∧ q = .int .i64 (j : Int) ∧ v = .int .i64 ((sumN (es.take j) : Nat) : Int) ∧ Hid (sumN (es.take j) ≤ 12020) ∧ Hid (Below W1.heap.size W1 wr)) (fun _ q _ => m - (intOf q).toNat)
  case atStart => exact ⟨0, by omega, rfl, rfl, hide (by simp [sumN]), hide (Below.refl _ _)⟩
  case round =>
    obtain ⟨j, hj, rfl, rfl, HS, F⟩ := hrel
    have X2 := hide (later_block (unhide F) (unhide X1))
    have x1 : wr.cell? ⟨w.heap.size, 1, none⟩ = some (.slice h.ep m h.ec) := box_cell (unhide X2) 1 _ rfl
    have x6 : wr.cell? ⟨w.heap.size, 6, none⟩ = some (.slice h.kp e.keep.length h.kc) := box_cell (unhide X2) 6 _ rfl
    have U2 := hide ((unhide U1).trans ((unhide F).mono (unhide U1).size))
    by_cases hjm : j < m
    · have y0 : (0 : Int) ≤ (j : Int) := by omega
      have y1 : (j : Int) < (m : Int) := by omega
      have hjl : j < es.length := by rw [unhide HL]; exact hjm
      by_cases hs : sumN (es.take j) ≤ 6000
      · have ys : ((sumN (es.take j) : Nat) : Int) ≤ 6000 := by omega
        obtain ⟨b, off, dp, dc, hep, p0, p1, p2, p3, p4, _⟩ := ((unhide EA).later (unhide F)).cell j hjl
        have ST := sumN_take es j hjl
        generalize hsj : sumN (es.take j) = sj at *
        generalize es[j].2.2.2.length = dl at *
        have SE := hide ST
        have HS1 := hide (show sumN (es.take (j + 1)) ≤ 12020 by omega)
        rw [hep] at x1
        have hmn : (min (dl : Int) 6000) = ((min dl 6000 : Nat) : Int) := by omega
        clear ST hsj
        go_wp2
        exact ⟨⟨j + 1, by omega, by go_num, by rw [unhide SE, Value.int.injEq]; exact ⟨rfl, by omega⟩, HS1, F⟩, by simp [intOf]; omega⟩
      · have ys : ¬ ((sumN (es.take j) : Nat) : Int) ≤ 6000 := by omega
        have FF := hide (unhide FE false wr (fun h => by cases h) (unhide U2))
        generalize sumN (es.take j) = sj at *
        go_wp2
        go_ret
        exact unhide FF
    · have hjj : ¬ (j : Int) < (m : Int) := by omega
      have EE := hide (show sumN (es.take j) = sumN es by rw [List.take_of_length_le (by rw [unhide HL]; omega)])
      generalize sumN (es.take j) = sj at *
      by_cases hs : sj ≤ 6000
      · have ys : (sj : Int) ≤ 6000 := by omega
        by_cases hk : e.keep.length ≤ 50
        · have yk : (e.keep.length : Int) ≤ 50 := by omega
          have FF := hide (unhide FE true wr (fun _ => ⟨by rw [← unhide EE]; exact hs, hk⟩) (unhide U2))
          go_wp2
          go_ret
          exact unhide FF
        · have yk : ¬ (e.keep.length : Int) ≤ 50 := by omega
          have FF := hide (unhide FE false wr (fun h => by cases h) (unhide U2))
          go_wp2
          go_ret
          exact unhide FF
      · have ys : ¬ (sj : Int) ≤ 6000 := by omega
        have FF := hide (unhide FE false wr (fun h => by cases h) (unhide U2))
        go_wp2
        go_ret
        exact unhide FF
end Go.Proofs.YtijcpmbfhfppmaaGreatDoor
end
/- Logs: each method of a log, told by the records that are synced and those behind them. -/
section
namespace Go.Proofs.YtijcpmbfhfppmaaGreatDoor
open Go.ChangeShapes Go.WideShapes Go.ChangeAt Go.RowKit
set_option linter.unusedVariables false
section
variable {Av : Nat → Prop} {base : Nat} {w w' : World} {L d M room N N' : Nat} {ss ss' : Ds} {c : Wc} {n : Nat} {ep : Option Addr} {ec : Nat} {hs : List (Option Addr × Nat)} {r1 r2 : List (List Nat)}
/-- Records were added, or it is as it was. -/
def PutEnd (Av : Nat → Prop) (base L d M room N : Nat) (w : World) (c : Wc) (n : Nat) (r1 r2 : List (List Nat)) (k : Nat) (e : Ending) (w' : World) : Prop :=
  ∃ (r : Nat) (ss' : Ds) (c' : Wc) (ep : Option Addr) (ec : Nat) (hs : List (Option Addr × Nat)) (rs : List (List Nat)), e = .returned (.int .i64 (r : Int)) ∧ WAt Av base w' L d M room N ss' c' n ep ec hs ∧ LS room ss' c' n r1 (r2 ++ rs) ∧ (r ≠ 0 → c' = c) ∧ rs.length ≤ k ∧ c'.es.length ≤ c.es.length + 300 ∧ Asd Av base w w'
theorem append_do (z : WAt Av base w L d M room N ss c n ep ec hs) (ls : LS room ss c n r1 r2) (hN : N + 2 ≤ 1000000) (hr : room ≤ 20000) (a : Option Addr) (m k : Nat) (es : List EntI) (hm : es.length = m) (hE : EntsIn (fun g => g < base ∨ Av g) w a es) (h6 : sumN es ≤ 6000) (hl : c.es.length ≤ 100000) :
    Calls Tryz.prog 27 #[.pointer (some ⟨L, 0, none⟩), .slice a m k] w (PutEnd Av base L d M room (N + 2) w c n r1 r2 m) := by
  have h20 := sumN_len es
  refine (append_calls z hN a m k es hm hE (by omega)).mono ?_
  rintro e W ⟨rfl, ⟨ep', ec', hs', z'⟩, a'⟩
  have hfit := ls.fit
  rcases ls.append es (fun b hb => by have := recsE_sum hb; omega) with ⟨x, hx⟩ | ⟨ss', hx, ls'⟩
  · rw [hx] at z' ⊢
    exact ⟨x, ss, c, ep', ec', hs', [], rfl, z', by rw [List.append_nil]; exact ls, fun _ => rfl, by simp, by omega, a'⟩
  · rw [hx] at z' ⊢
    have := addAll_len c es
    exact ⟨0, ss', _, ep', ec', hs', _, rfl, z', ls', fun h => absurd rfl h, by rw [List.length_map, hm]; exact Nat.le_refl _, by show (addAll c es).es.length ≤ c.es.length + 300; omega, a'⟩
theorem hard_do (z : WAt Av base w L d M room N ss c n ep ec hs) (ls : LS room ss c n r1 r2) (hN : N + 2 ≤ 1000000) (hr : room ≤ 20000) (t v : Int) :
    Calls Tryz.prog 28 #[.pointer (some ⟨L, 0, none⟩), .agg #[.int .i64 t, .int .i64 v]] w (PutEnd Av base L d M room (N + 2) w c n r1 r2 1) := by
  by_cases h : 0 ≤ t ∧ t ≤ 1099511627776 ∧ 0 ≤ v ∧ v ≤ 9
  · obtain ⟨t', rfl⟩ : ∃ t' : Nat, t = (t' : Int) := ⟨t.toNat, by omega⟩
    obtain ⟨v', rfl⟩ : ∃ v' : Nat, v = (v' : Int) := ⟨v.toNat, by omega⟩
    refine (setHard_yes z hN t' v' (by omega) (by omega)).mono ?_
    rintro e W ⟨rfl, ⟨ep', ec', hs', z'⟩, a'⟩
    rcases ls.hard (t := t') (v := v') (by omega) (by omega) (by omega) with ⟨x, hx⟩ | ⟨ss', hx, ls'⟩
    · rw [hx] at z' ⊢
      exact ⟨x, ss, c, ep', ec', hs', [], rfl, z', by rw [List.append_nil]; exact ls, fun _ => rfl, by simp, by omega, a'⟩
    · rw [hx] at z' ⊢
      exact ⟨0, ss', _, ep', ec', hs', _, rfl, z', ls', fun h => absurd rfl h, by simp, by simp only; omega, a'⟩
  · refine (setHard_no z t v h).mono ?_
    rintro e W ⟨rfl, ⟨ep', ec', hs', z'⟩, a'⟩
    exact ⟨2, ss, c, ep', ec', hs', [], rfl, z'.monoN (by omega) hN, by rw [List.append_nil]; exact ls, fun _ => rfl, by simp, by omega, a'⟩
/-- All is synced. -/
def SynEnd (Av : Nat → Prop) (base L d M room N : Nat) (w : World) (c : Wc) (n : Nat) (r1 r2 : List (List Nat)) (e : Ending) (w' : World) : Prop :=
  ∃ (ss' : Ds) (ep : Option Addr) (ec : Nat) (hs : List (Option Addr × Nat)), e = .returned (.int .i64 0) ∧ WAt Av base w' L d M room N ss' c n ep ec hs ∧ LS room ss' c n (r1 ++ r2) [] ∧ Asd Av base w w'
theorem sync_do (z : WAt Av base w L d M room N ss c n ep ec hs) (ls : LS room ss c n r1 r2) :
    Calls Tryz.prog 29 #[.pointer (some ⟨L, 0, none⟩)] w (SynEnd Av base L d M room N w c n r1 r2) := by
  refine (wsync_calls z).mono ?_
  rintro e W ⟨rfl, z', a'⟩
  obtain ⟨q1, q2⟩ := ls.sync
  rw [q1] at z' ⊢
  exact ⟨_, ep, ec, hs, rfl, z', q2, a'.sub (fun g hg => .inl hg)⟩
/-- Written anew, or as it was. -/
def NewEnd (P : Prop) (Av : Nat → Prop) (base L d M room N : Nat) (w : World) (ss : Ds) (c : Wc) (n : Nat) (e : Ending) (w' : World) : Prop :=
  ∃ (r : Nat) (ss' : Ds) (c' : Wc) (n' : Nat) (ep : Option Addr) (ec : Nat) (hs : List (Option Addr × Nat)), e = .returned (.int .i64 (r : Int)) ∧ WAt Av base w' L d M room N ss' c' n' ep ec hs ∧ Asd Av base w w' ∧ c'.es.length ≤ c.es.length ∧
    ((r = 0 ∧ P ∧ ∃ r1', LS room ss' c' n' r1' []) ∨ (ss' = ss ∧ c' = c ∧ n' = n ∧ (r = 0 → ¬ P)))
theorem reset_do (z : WAt Av base w L d M room N ss c n ep ec hs) (ls : LS room ss c n r1 r2) (hN : N + 1 ≤ 1000000) (i t : Int) :
    Calls Tryz.prog 31 #[.pointer (some ⟨L, 0, none⟩), .agg #[.int .i64 i, .int .i64 t]] w (NewEnd True Av base L d M room (N + 1) w ss c n) := by
  by_cases h : (0 ≤ i ∧ i ≤ 1099511627776) ∧ 0 ≤ t ∧ t ≤ 1099511627776
  · obtain ⟨i', rfl⟩ : ∃ i' : Nat, i = (i' : Int) := ⟨i.toNat, by omega⟩
    obtain ⟨t', rfl⟩ : ∃ t' : Nat, t = (t' : Int) := ⟨t.toNat, by omega⟩
    refine (reset_yes z hN i' t' (by omega) (by omega)).mono ?_
    rintro e W ⟨rfl, ⟨ep', ec', hs', z'⟩, a'⟩
    rcases ls.new (c2 := ⟨i', t', c.ht, c.hv, []⟩) ⟨by simp only; omega, by simp only; omega, z.ok.ht, z.ok.hv, fun e he => by simp at he⟩ Ix.nil with ⟨x, h0, hx⟩ | ⟨ss', hx, ls'⟩
    · rw [hx] at z' ⊢
      exact ⟨x, _, _, _, ep', ec', hs', rfl, z', a', by simp, .inr ⟨rfl, rfl, rfl, fun h => absurd h h0⟩⟩
    · rw [hx] at z' ⊢
      exact ⟨0, _, _, _, ep', ec', hs', rfl, z', a', by simp, .inl ⟨rfl, trivial, _, ls'⟩⟩
  · refine (reset_no z i t h).mono ?_
    rintro e W ⟨rfl, ⟨ep', ec', hs', z'⟩, a'⟩
    exact ⟨2, _, _, _, ep', ec', hs', rfl, z'.monoN (by omega) hN, a', by simp, .inr ⟨rfl, rfl, rfl, fun h => by omega⟩⟩
theorem compact_do (z : WAt Av base w L d M room N ss c n ep ec hs) (ls : LS room ss c n r1 r2) (hN : N + 1 ≤ 1000000) (i : Int) (hi : -9223372036854775808 ≤ i ∧ i ≤ 9223372036854775807) :
    Calls Tryz.prog 30 #[.pointer (some ⟨L, 0, none⟩), .int .i64 i] w (NewEnd ((c.bi : Int) < i) Av base L d M room (N + 1) w ss c n) := by
  refine (compact_calls z hN ls.ix i hi).mono ?_
  rintro e W ⟨rfl, ⟨ep', ec', hs', z'⟩, a'⟩
  have hW : wCompact room n c i ss = (if (termW c i).2 = false then (2, ss, c, n) else if i = (c.bi : Int) then (0, ss, c, n) else wNew room n c ⟨i.toNat, (termW c i).1.toNat, c.ht, c.hv, c.es.drop (i.toNat - c.bi)⟩ ss) := rfl
  by_cases h1 : (termW c i).2 = false
  · rw [if_pos h1] at hW
    rw [hW] at z' ⊢
    exact ⟨2, _, _, _, ep', ec', hs', rfl, z', a', by simp, .inr ⟨rfl, rfl, rfl, fun h => by omega⟩⟩
  · rw [if_neg h1] at hW
    by_cases h2 : i = (c.bi : Int)
    · rw [if_pos h2] at hW
      rw [hW] at z' ⊢
      exact ⟨0, _, _, _, ep', ec', hs', rfl, z', a', by simp, .inr ⟨rfl, rfl, rfl, fun _ => by omega⟩⟩
    · rw [if_neg h2] at hW
      have hr : (c.bi : Int) < i ∧ i ≤ ((c.bi + c.es.length : Nat) : Int) := by
        by_cases hq : (c.bi : Int) < i ∧ i ≤ ((c.bi + c.es.length : Nat) : Int)
        · exact hq
        · exfalso
          apply h1
          unfold termW
          rw [if_neg h2, if_neg hq]
      have ht : termW c i = (((c.es.getD (i - (c.bi : Int) - 1).toNat default).2.1 : Int), true) := by
        unfold termW
        rw [if_neg h2, if_pos hr]
      obtain ⟨k, rfl⟩ : ∃ k : Nat, i = (k : Int) := ⟨i.toNat, by omega⟩
      obtain ⟨ok2, ix2, _⟩ := comp_ok z.ok ls.ix (show c.bi < k by omega) (show k ≤ c.bi + c.es.length by omega) (show (termW c (k : Int)).1 = _ by rw [ht])
      rw [Int.toNat_natCast] at hW
      rcases ls.new ok2 ix2 with ⟨x, h0, hx⟩ | ⟨ss', hx, ls'⟩
      · rw [hx] at hW
        rw [hW] at z' ⊢
        exact ⟨x, _, _, _, ep', ec', hs', rfl, z', a', by simp, .inr ⟨rfl, rfl, rfl, fun h => absurd h h0⟩⟩
      · rw [hx] at hW
        rw [hW] at z' ⊢
        exact ⟨0, _, _, _, ep', ec', hs', rfl, z', a', by simp only [List.length_drop]; omega, .inl ⟨rfl, hr.1, _, ls'⟩⟩
end
end Go.Proofs.YtijcpmbfhfppmaaGreatDoor
end
/- Logs, plainly: lives of a log that adds entries of one byte (TopRecovers). -/
section
namespace Go.Proofs.YtijcpmbfhfppmaaGreatDoor
open Go.ChangeShapes Go.WideShapes Go.ChangeAt Go.RowKit
set_option linter.unusedVariables false

/-- The entries 1, 2, .. each with its index as data; terms from 1 to i that never fall. -/
structure Tr (c : Wc) (i : Nat) : Prop where
  b : c.bi = 0
  at_ : ∀ j (hj : j < c.es.length), ∃ t, c.es[j] = (2, t, j + 1, [(j + 1) % 256]) ∧ 1 ≤ t ∧ t ≤ i
  up : ∀ j (hj : j + 1 < c.es.length), c.es[j].2.1 ≤ c.es[j + 1].2.1
theorem Tr.mono {c : Wc} {i i' : Nat} (h : Tr c i) (hi : i ≤ i') : Tr c i' := ⟨h.b, fun j hj => let ⟨t, h1, h2, h3⟩ := h.at_ j hj; ⟨t, h1, h2, Nat.le_trans h3 hi⟩, h.up⟩
/-- What is synced (c1), and the entries behind it. -/
structure Lv (room : Nat) (ss : Ds) (c c1 : Wc) (es : List EntN) (r1 : List (List Nat)) (i : Nat) : Prop where
  ls : LS room ss c 1 r1 (es.map recE)
  one : contR r1 = some c1
  is : c = { c1 with es := c1.es ++ es }
  tr : Tr c i
  ok : ∀ e ∈ es, EOk e ∧ e.2.2.2.length ≤ 1
  sz : (cat r1).length ≤ 22 + 42 * c1.es.length
theorem one_sum : ∀ es : List EntN, (∀ e ∈ es, EOk e ∧ e.2.2.2.length ≤ 1) → sumN (es.map toI) ≤ 21 * es.length
  | [], _ => by simp [sumN]
  | e :: es, h => by
    have ih := one_sum es (fun x hx => h x (by simp [hx]))
    have h1 := (h e (by simp)).2
    unfold sumN at ih ⊢
    rw [List.map_cons, List.map_cons, List.sum_cons, List.length_cons]
    have h2 : (toI e).2.2.2 = e.2.2.2 := rfl
    rw [h2]
    omega
theorem one_cat (es : List EntN) (h : ∀ e ∈ es, EOk e ∧ e.2.2.2.length ≤ 1) : (cat (es.map recE)).length ≤ 42 * es.length := by
  have h1 := recsE_sum (recsE_yes es (fun e he => (h e he).1))
  have h2 := one_sum es h
  rw [cat_ents]
  omega
theorem Lv.all {room : Nat} {ss : Ds} {c c1 : Wc} {es : List EntN} {r1 : List (List Nat)} {i : Nat} (h : Lv room ss c c1 es r1 i) : (cat (r1 ++ es.map recE)).length ≤ 22 + 42 * c.es.length := by
  have h1 := h.sz
  have h2 := one_cat es h.ok
  have h3 : c.es.length = c1.es.length + es.length := by rw [h.is]; simp
  rw [cat_app, List.length_append]
  omega
theorem Tr.put {c : Wc} {i : Nat} (h : Tr c i) (h1 : 1 ≤ i) : Tr { c with es := c.es ++ [(2, i, c.es.length + 1, [(c.es.length + 1) % 256])] } i := by
  refine ⟨h.b, fun j hj => ?_, fun j hj => ?_⟩
  · simp only [List.length_append, List.length_singleton] at hj
    by_cases hlt : j < c.es.length
    · simp only [List.getElem_append_left hlt]
      exact h.at_ j hlt
    · obtain rfl : j = c.es.length := by omega
      simp only [List.getElem_append_right (Nat.le_refl _), Nat.sub_self, List.getElem_singleton]
      exact ⟨i, rfl, h1, Nat.le_refl _⟩
  · simp only [List.length_append, List.length_singleton] at hj
    by_cases hlt : j + 1 < c.es.length
    · simp only [List.getElem_append_left hlt, List.getElem_append_left (show j < c.es.length by omega)]
      exact h.up j hlt
    · have e : j + 1 = c.es.length := by omega
      simp only [List.getElem_append_left (show j < c.es.length by omega), e, List.getElem_append_right (Nat.le_refl _), Nat.sub_self, List.getElem_singleton]
      obtain ⟨t, q1, q2, q3⟩ := h.at_ j (by omega)
      rw [q1]
      exact q3
theorem Tr.cut {c : Wc} {i m : Nat} (h : Tr c i) : Tr { c with es := c.es.take m } i := by
  refine ⟨h.b, fun j hj => ?_, fun j hj => ?_⟩
  · simp only [List.length_take] at hj
    simp only [List.getElem_take]
    exact h.at_ j (by omega)
  · simp only [List.length_take] at hj
    simp only [List.getElem_take]
    exact h.up j (by omega)
section
variable {room i : Nat} {ss : Ds} {c c1 : Wc} {es : List EntN} {r1 : List (List Nat)}
theorem Lv.begin (hr : 22 ≤ room) : Lv room [(walNm 1, ⟨true, cat (allR wc0), []⟩)] wc0 wc0 [] (allR wc0) 0 := by
  have hb : (allB wc0).length = 22 := by decide +kernel
  refine ⟨(LS.begin hr).2, contR_allR wc0_ok Ix.nil, rfl, ⟨rfl, fun j hj => by simp [wc0] at hj, fun j hj => by simp [wc0] at hj⟩, by simp, ?_⟩
  rw [cat_allR, hb]
  omega
theorem Lv.mono {i' : Nat} (h : Lv room ss c c1 es r1 i) (hi : i ≤ i') : Lv room ss c c1 es r1 i' := ⟨h.ls, h.one, h.is, h.tr.mono hi, h.ok, h.sz⟩
/-- One more entry. -/
theorem Lv.put (h : Lv room ss c c1 es r1 i) (h1 : 1 ≤ i) (h2 : i ≤ 1000) (hl : c.es.length ≤ 1000) (hr : 64 + 42 * c.es.length ≤ min room 262144) :
    ∃ ss', wAppend room 1 c [(2, (i : Int), ((c.es.length + 1 : Nat) : Int), [(c.es.length + 1) % 256])] ss = (0, ss', { c with es := c.es ++ [(2, i, c.es.length + 1, [(c.es.length + 1) % 256])] }, 1) ∧ Lv room ss' { c with es := c.es ++ [(2, i, c.es.length + 1, [(c.es.length + 1) % 256])] } c1 (es ++ [(2, i, c.es.length + 1, [(c.es.length + 1) % 256])]) r1 i := by
  have ho : EOk (2, i, c.es.length + 1, [(c.es.length + 1) % 256]) := ⟨⟨by simp, by simp⟩, ⟨h1, by simp only; omega⟩, ⟨by simp, by simp only; omega⟩, fun hk => by simp at hk, by simp⟩
  have hs : sumN ([(2, i, c.es.length + 1, [(c.es.length + 1) % 256])].map toI) = 21 := by simp [sumN, toI]
  obtain ⟨ss', q1, q2, q3⟩ := h.ls.seq (es := [(2, i, c.es.length + 1, [(c.es.length + 1) % 256])]) (k := c.es.length) (Nat.le_refl _) (fun j hj => by
    obtain rfl : j = 0 := by simp at hj; omega
    simp only [List.getElem_singleton]
    have := h.tr.b
    omega) (by simp) (fun e he => by rw [List.mem_singleton.1 he]; exact ho) (by have := h.all; omega)
  rw [List.take_length] at q1 q2
  have hm : es.map recE ++ [(2, i, c.es.length + 1, [(c.es.length + 1) % 256])].map recE = (es ++ [(2, i, c.es.length + 1, [(c.es.length + 1) % 256])]).map recE := by rw [List.map_append]
  rw [hm] at q2 q3
  refine ⟨ss', q1, q2, h.one, ?_, h.tr.put h1, fun e he => ?_, ?_⟩
  · rw [h.is]
    simp
  · rcases List.mem_append.1 he with he | he
    · exact h.ok e he
    · rw [List.mem_singleton.1 he]; exact ⟨ho, by simp⟩
  · exact h.sz
theorem Lv.sync (h : Lv room ss c c1 es r1 i) : ∃ ss' r1', dSync (walNm 1) ss = (0, ss') ∧ Lv room ss' c c [] r1' i := by
  obtain ⟨q1, q2⟩ := h.ls.sync
  refine ⟨_, r1 ++ es.map recE, q1, ?_, h.ls.cont, by simp, h.tr, by simp, h.all⟩
  rw [List.map_nil]
  exact q2
/-- Behind a crash. -/
theorem Lv.crash (h : Lv room ss c c1 es r1 i) (ks : List Int) : ∃ ss' c' r1', wOpen room (crashS ks 0 ss) = (0, ss', some (c', 1)) ∧ Lv room ss' c' c' [] r1' i ∧ c1.es.length ≤ c'.es.length ∧ c'.es.length ≤ c.es.length := by
  obtain ⟨m, c', hm, hc, q1, q2⟩ := h.ls.crash ks
  rw [List.length_map] at hm
  have htk : (es.map recE).take m = (es.take m).map recE := by rw [List.map_take]
  rw [htk] at hc q1 q2
  have hix := h.ls.ix
  have hf : foldR c1 ((es.take m).map recE) = some { c1 with es := c1.es ++ es.take m } := by
    refine fold_ents (es.take m) c1 (fun e he => (h.ok e (List.mem_of_mem_take he)).1) (fun j hj => ?_)
    rw [List.length_take] at hj
    rw [List.getElem_take]
    have h3 := hix (c1.es.length + j) (by rw [h.is]; simp only [List.length_append]; omega)
    have h4 : c.es[c1.es.length + j]'(by rw [h.is]; simp only [List.length_append]; omega) = es[j]'(by omega) := by
      simp only [h.is]
      rw [List.getElem_append_right (by omega)]
      simp
    rw [h4] at h3
    have h5 : c.bi = c1.bi := by rw [h.is]
    omega
  have hc2 := contR_app h.one hf
  rw [hc] at hc2
  have hc3 : c' = { c1 with es := c1.es ++ es.take m } := Option.some.inj hc2
  have hcc : c' = { c with es := c.es.take (c1.es.length + min m es.length) } := by
    rw [hc3, h.is]
    simp only [List.take_append, Wc.mk.injEq, true_and]
    rw [List.take_of_length_le (show c1.es.length ≤ c1.es.length + min m es.length by omega), show c1.es.length + min m es.length - c1.es.length = min m es.length by omega]
    congr 1
    rcases Nat.le_total m es.length with hq | hq
    · rw [Nat.min_eq_left hq]
    · rw [Nat.min_eq_right hq, List.take_of_length_le hq, List.take_length]
  have hlen : c.es.length = c1.es.length + es.length := by rw [h.is]; simp
  have hl' : c'.es.length = c1.es.length + min m es.length := by rw [hcc]; simp only [List.length_take]; omega
  have htr : Tr c' i := by rw [hcc]; exact h.tr.cut
  refine ⟨_, c', r1 ++ (es.take m).map recE, q1, ⟨by rw [List.map_nil]; exact q2, hc, by simp, htr, by simp, ?_⟩, by omega, by omega⟩
  have h7 := one_cat (es.take m) (fun e he => h.ok e (List.mem_of_mem_take he))
  have h8 := h.sz
  rw [List.length_take] at h7
  rw [cat_app, List.length_append]
  omega
end
end Go.Proofs.YtijcpmbfhfppmaaGreatDoor
end
