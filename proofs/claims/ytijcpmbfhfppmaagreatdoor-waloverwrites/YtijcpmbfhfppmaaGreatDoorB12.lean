/- Logs: an entry is added. -/
import Derived.Test.YtijcpmbfhfppmaaGreatDoorB11
namespace Go.Proofs.YtijcpmbfhfppmaaGreatDoor
open Go.ChangeShapes Go.WideShapes Go.ChangeAt Go.RowKit
set_option linter.unusedVariables false

theorem elemE : Tryz.prog.underlying 27 = some (.slice (Tryz.prog.elem 27)) := by kernel_rfl
theorem sizeOfE (u : World) : (sizeOf (Tryz.prog.elem 27)).run Tryz.prog u = .ok 4 u := by kernel_rfl
theorem run_slice_hE (a : Option Addr) (len cap hi : Nat) (ha : ∀ ad, a = some ad → ∃ g, ad = ⟨g, 0, none⟩) (h2 : hi ≤ cap) (u : World) :
    (Instr.slice 27 (.slice a len cap) none (some (.int .i64 (hi : Int))) none).run Tryz.prog u = .ok (.slice a hi cap) u := by
  rw [run_slice_h (w := u) 27 a len cap elemE .i64 (hi : Int) (by omega) (by omega), sizeOfE]
  have hz := slp_zero a cap ha
  unfold slp at hz
  simp [Result.andThen, sliced]
  simpa using hz
/-- All blocks but two stay. -/
structure Grew2 (B : Nat) (o : Option Nat) (w w' : World) : Prop where
  os : w'.os = w.os
  tape : w'.tape = w.tape
  output : w'.output = w.output
  size : w.heap.size ≤ w'.heap.size
  block : ∀ i, i < w.heap.size → i ≠ B → o ≠ some i → w'.heap[i]? = w.heap[i]?
theorem Grew2.refl (B : Nat) (o : Option Nat) (w : World) : Grew2 B o w w := ⟨rfl, rfl, rfl, Nat.le_refl _, fun _ _ _ _ => rfl⟩
theorem Grew2.ofBelow {B : Nat} {o : Option Nat} {w w' : World} (h : Below w.heap.size w w') : Grew2 B o w w' := ⟨h.os, h.tape, h.output, h.size, fun i hi _ _ => h.block i hi⟩
/-- An entry is added; what stood from its index on goes. -/
def addW (c : Wc) (e : EntN) : Wc := { c with es := c.es.take (e.2.2.1 - c.bi - 1) ++ [e] }
theorem step_newE {w : World} {ops : Array Oper} {o : Oper} {a : Act} {K : Act → World → Prop} {Q : Exit → Act → World → Prop} {E0 : Prop} (hgd : o.guard = none) (k : Nat) (ho : o.op = .buildSlice 27 1 #[(0, .tmp k)]) (v0 v1 v2 v3 : Value) (hs : a.eval (.tmp k) = .agg #[v0, v1, v2, v3])
    (h : ∀ E w', w.heap.size = E → w'.heap[E]? = some (.cells #[v0, v1, v2, v3] 60 (0, 0)) → Below w.heap.size w w' → K (a.put o.dst (.slice (some ⟨E, 0, none⟩) 1 1)) w') :
    if Region.wanted o (yielded ops a.tmps) = true then Oper.wp Tryz.prog o a w K Q else E0 := by
  have hw : Region.wanted o (yielded ops a.tmps) = true := by simp [Region.wanted, hgd]
  rw [if_pos hw]
  have h1 := h w.heap.size (w.alloc (.cells #[v0, v1, v2, v3] 60)) rfl (heap_new w _) ((Below.refl _ _).alloc (Nat.le_refl _) _)
  have hs' : a.tmps[k]?.getD undef = .agg #[v0, v1, v2, v3] := by simpa [go_sem] using hs
  unfold Oper.wp
  simp [execOp, ho, go_sem, hs']
  exact h1
theorem step_appendL {w : World} {ops : Array Oper} {o : Oper} {a : Act} {K : Act → World → Prop} {Q : Exit → Act → World → Prop} {E0 : Prop} (hgd : o.guard = none) (s x : Operand)
    (ho : o.op = .call { callee := .builtin .append, args := #[s, x], argTypes := #[27, 27] })
    (base : Nat) (sp : Option Addr) (n c : Nat) (es : List EntN) (hs : List (Option Addr × Nat)) (hsv : a.eval s = .slice sp n c) (hn : es.length = n) (hown : OwnL base w sp c es hs) (B : Nat) (e : EntN) (h : Option Addr × Nat) (hx : a.eval x = .slice (some ⟨B, 0, none⟩) 1 1)
    (hB : w.heap[B]? = some (.cells (entRow e h).toArray 60 (0, 0))) (hd : Bx base w h.1 h.2 e.2.2.2) (hlen : es.length ≤ 1048576) (hbase : base ≤ w.heap.size)
    (hk : ∀ sp' c' w', OwnL base w' sp' c' (es ++ [e]) (hs ++ [h]) → w.grownBy w' (blk sp) → (∀ g, blk sp' = some g → blk sp = some g ∨ w.heap.size ≤ g) → K (a.put o.dst (.slice sp' (n + 1) c')) w') :
    if Region.wanted o (yielded ops a.tmps) = true then Oper.wp Tryz.prog o a w K Q else E0 := by
  subst hn
  have hw : Region.wanted o (yielded ops a.tmps) = true := by simp [Region.wanted, hgd]
  rw [if_pos hw]
  obtain ⟨sp', c', w', hrun, h1, h2, h3⟩ := run_appendL (w := w) hown B e h hB hd hlen hbase o.type
  unfold Oper.wp
  simp [execOp, ho, resolve, invoke, builtin, hsv, hx, hrun, Result.andThen]
  exact hk sp' c' w' h1 h2 h3
/-- How add ends. -/
def AddEnd (base : Nat) (w : World) (B : Nat) (T : TypeId) (p q : List Value) (ep : Option Addr) (hs : List (Option Addr × Nat)) (dp : Option Addr) (c' : Wc) (r : Ending) (w' : World) : Prop :=
  r = .returned (.tuple #[]) ∧ ∃ ep' ec' hs', CtAt w' B T p q c' ep' ec' ∧ OwnL base w' ep' ec' c'.es hs' ∧ Grew2 B (blk ep) w w' ∧ ∀ g, LFoot ep' hs' g → LFoot ep hs g ∨ blk dp = some g ∨ w.heap.size ≤ g
section
variable {w : World} {B : Nat} {T : TypeId} {p q : List Value} {c : Wc} {ep : Option Addr} {ec : Nat} {base : Nat} {hs : List (Option Addr × Nat)}
theorem OwnL.addr {es : List EntN} (h : OwnL base w ep ec es hs) : ∀ ad, ep = some ad → ∃ g, ad = ⟨g, 0, none⟩ := fun ad e => by
  rcases h.row.2 with ⟨hv, h0⟩ | ⟨g', cap, cur, hv, _⟩
  · simp only [Value.slice.injEq] at hv
    rw [hv.1] at e
    cases e
  · simp only [Value.slice.injEq] at hv
    rw [hv.1] at e
    cases e
    exact ⟨g', rfl⟩
theorem OwnL.cap {es : List EntN} (h : OwnL base w ep ec es hs) : es.length ≤ ec ∧ (ep = none → ec = 0) := by
  rcases h.row.2 with ⟨hv, h0⟩ | ⟨g', cap, cur, hv, _, _, hle, _⟩
  · simp only [Value.slice.injEq] at hv
    exact ⟨by omega, fun _ => hv.2.2⟩
  · simp only [Value.slice.injEq] at hv
    obtain ⟨rfl, _, rfl⟩ := hv
    exact ⟨hle, fun h => by cases h⟩
set_option maxRecDepth 20000 in
set_option maxHeartbeats 8000000 in
theorem add_calls (h : CtAt w B T p q c ep ec) (o : Nat) (ho : p.length = o) (hT : T ≠ 60) (hT2 : T ≠ 5) (hE : OwnL base w ep ec c.es hs) (hb : c.bi ≤ 1099511627776) (hl : c.es.length ≤ 1000000) (e : EntN) (dp : Option Addr) (dn dc : Nat) (hdn : e.2.2.2.length = dn) (hd : Bx base w dp dc e.2.2.2) (hf1 : c.bi < e.2.2.1) (hf2 : e.2.2.1 ≤ c.bi + c.es.length + 1) (hbs : base ≤ w.heap.size) :
    Calls Tryz.prog 68 #[.pointer (some ⟨B, o, none⟩), .agg #[.int .i64 (e.1 : Int), .int .i64 (e.2.1 : Int), .int .i64 (e.2.2.1 : Int), .slice dp dn dc]] w (AddEnd base w B T p q ep hs dp (addW c e)) := by
  obtain ⟨ek, et, ei, ed⟩ := e
  dsimp only at *
  subst hdn
  obtain ⟨kk, hkk⟩ : ∃ kk, ei - c.bi - 1 = kk := ⟨_, rfl⟩
  have hkl : kk ≤ c.es.length := by omega
  have hik : IntKind.i64.wrap (IntKind.i64.wrap ((ei : Int) - (c.bi : Int)) - 1) = (kk : Int) := by
    rw [IntKind.wrap_i64, IntKind.wrap_i64]
    omega
  have hBep : blk ep ≠ some B := fun e => by
    obtain ⟨_, _, cur, T', hc, hT'⟩ := hE.foot B (.inl e)
    rw [h.row] at hc
    simp only [Option.some.injEq, Obj.cells.injEq] at hc
    rcases hE.row.2 with ⟨hv, h0⟩ | ⟨g', cap, cur', hv, _, hh, _⟩
    · simp only [Value.slice.injEq] at hv
      rw [hv.1] at e
      cases e
    · simp only [Value.slice.injEq] at hv
      rw [hv.1] at e
      cases e
      rw [h.row] at hh
      simp only [Option.some.injEq, Obj.cells.injEq] at hh
      exact hT hh.2.1
  have b1 : Below w.heap.size w (w.alloc (.cells #[.int .i64 (ek : Int), .int .i64 (et : Int), .int .i64 (ei : Int), .slice dp ed.length dc] 60)) := (Below.refl _ _).alloc (Nat.le_refl _) _
  have X1 := heap_new w (.cells #[.int .i64 (ek : Int), .int .i64 (et : Int), .int .i64 (ei : Int), .slice dp ed.length dc] 60)
  have hsl := fun u => run_slice_hE ep c.es.length ec kk hE.addr (Nat.le_trans hkl hE.cap.1) u
  have hEK := hE.take kk hkl
  have HLK := hide (show (c.es.take kk).length = kk by rw [List.length_take]; omega)
  have FE := hide (show ∀ U sp' c', (∃ U0, Below w.heap.size w U0 ∧ U0.grownBy U (blk ep) ∧ (∀ g, blk sp' = some g → blk ep = some g ∨ U0.heap.size ≤ g)) → OwnL base U sp' c' (c.es.take kk ++ [(ek, et, ei, ed)]) (hs.take kk ++ [(dp, dc)]) → CtAt U B T p q c ep ec → AddEnd base w B T p q ep hs dp (addW c (ek, et, ei, ed)) (.returned (.tuple #[])) (U.setCell ⟨B, o + 4, none⟩ (.slice sp' (kk + 1) c')) from fun U sp' c' hU hO hC => by
    obtain ⟨U0, u1, u2, u3⟩ := hU
    have hS : CtAt (U.setCell ⟨B, o + 4, none⟩ (.slice sp' (kk + 1) c')) B T p q (addW c (ek, et, ei, ed)) sp' c' := hC.set o 4 ho _ _ _ _ (by
      unfold ct5 addW
      dsimp only
      rw [hkk, List.length_append, unhide HLK]
      rfl) (by omega)
    have hoth : ∀ g, g ≠ B → (U.setCell ⟨B, o + 4, none⟩ (.slice sp' (kk + 1) c')).heap[g]? = U.heap[g]? := fun g hg => heap_setCell_other U ⟨B, o + 4, none⟩ g _ hg
    have hfoot : ∀ g, LFoot sp' (hs.take kk ++ [(dp, dc)]) g → LFoot ep hs g ∨ blk dp = some g ∨ w.heap.size ≤ g := fun g hg => by
      rcases hg with hg | ⟨x, hx, hg⟩
      · rcases u3 g hg with a | a
        · exact .inl (.inl a)
        · exact .inr (.inr (Nat.le_trans u1.size a))
      · rcases List.mem_append.1 hx with hx | hx
        · exact .inl (.inr ⟨x, List.mem_of_mem_take hx, hg⟩)
        · rw [List.mem_singleton] at hx
          subst hx
          exact .inr (.inl hg)
    refine ⟨rfl, sp', c', hs.take kk ++ [(dp, dc)], hS, ?_, ⟨u2.os.trans u1.os, u2.tape.trans u1.tape, u2.output.trans u1.output, by have := u1.size; have := u2.size; simp only [World.setCell]; simp; omega, fun i h1 h2 h3 => (hoth i h2).trans ((u2.block i (Nat.lt_of_lt_of_le h1 u1.size) (fun e => h3 e.symm)).trans (u1.block i h1))⟩, hfoot⟩
    have hes : (addW c (ek, et, ei, ed)).es = c.es.take kk ++ [(ek, et, ei, ed)] := by unfold addW; dsimp only; rw [hkk]
    rw [hes]
    refine hO.same (fun g hg => hoth g (fun e => ?_))
    subst e
    obtain ⟨_, _, cur, T', hc, hT'⟩ := hO.foot g hg
    rw [hC.row] at hc
    simp only [Option.some.injEq, Obj.cells.injEq] at hc
    rw [← hc.2.1] at hT'
    rcases hT' with a | a
    · exact hT a
    · exact hT2 a)
  have CT := hide (h.later b1)
  have OW := hide (hEK.later b1)
  have BX := hide (hd.later b1)
  have XX := hide X1
  have F := hide b1
  have HX := hide (show w.heap.size < (w.alloc (.cells #[.int .i64 (ek : Int), .int .i64 (et : Int), .int .i64 (ei : Int), .slice dp ed.length dc] 60)).heap.size from (Array.getElem?_eq_some_iff.1 X1).1)
  have HEP := hide (show ∀ g, blk ep = some g → g < w.heap.size from fun g hg => (hE.foot g (.inl hg)).2.1)
  have HO := hide ho
  have HB := hide hBep
  have HBS := hide hbs
  have CTL := hide h.lt
  clear h hE hEK hd b1 X1 hf1 hf2 hb ho hBep hT hT2 hbs hkk
  generalize c.es.take kk = esK at *
  generalize hs.take kk = hsK at *
  go_enter Tryz.func68, Tryz.ntmps68
  go_wp2_with fail
  generalize w.alloc _ = W1 at *
  have w4 := ((unhide CT).cells o (unhide HO)).1.2.2.2.2
  have CT := hide ((unhide CT).later ((Below.refl _ _).drew))
  have OW := hide ((unhide OW).later ((Below.refl _ _).drew))
  have BX := hide ((unhide BX).later ((Below.refl _ _).drew))
  have XX := hide (show W1.drew.heap[w.heap.size]? = some _ from unhide XX)
  have F := hide (unhide F).drew
  have HX := hide (show w.heap.size < W1.drew.heap.size from unhide HX)
  have KS := hide (show (W1.drew.cell? ⟨w.heap.size, 0, none⟩ = some (.int .i64 (ek : Int)) ∧ W1.drew.cell? ⟨w.heap.size, 1, none⟩ = some (.int .i64 (et : Int)) ∧ W1.drew.cell? ⟨w.heap.size, 2, none⟩ = some (.int .i64 (ei : Int)) ∧ W1.drew.cell? ⟨w.heap.size, 3, none⟩ = some (.slice dp ed.length dc)) ∧ W1.drew.cell? ⟨B, o, none⟩ = some (.int .i64 (c.bi : Int)) from ⟨⟨box_cell (unhide XX) 0 _ rfl, box_cell (unhide XX) 1 _ rfl, box_cell (unhide XX) 2 _ rfl, box_cell (unhide XX) 3 _ rfl⟩, ((unhide CT).cells o (unhide HO)).1.1⟩)
  refine wp_region_held_drew (S := fun w' => (w'.cell? ⟨w.heap.size, 0, none⟩ = some (.int .i64 (ek : Int)) ∧ w'.cell? ⟨w.heap.size, 1, none⟩ = some (.int .i64 (et : Int)) ∧ w'.cell? ⟨w.heap.size, 2, none⟩ = some (.int .i64 (ei : Int)) ∧ w'.cell? ⟨w.heap.size, 3, none⟩ = some (.slice dp ed.length dc)) ∧ w'.cell? ⟨B, o, none⟩ = some (.int .i64 (c.bi : Int))) (by kernel_rfl) ?_ (fun hHeld => ?_)
  · try dsimp only
    exact unhide KS
  refine held_take 0 (oi := { dst := some 4, op := Op.move (Operand.tmp 0), type := 138, pos := "content.go:39", after := #[], guard := none }) (v := ?_) (by kernel_rfl) rfl (by rfl) (by kernel_rfl) (by kernel_rfl) (fun _ _ _ h => h) ?_ (by assumption) ?_
  rotate_left
  · (intro w hSw; (try dsimp only at hSw); go_simp; try with_reducible rfl)
  try simp only [Act.put, List.setIfInBounds_toArray, List.set_cons_zero, List.set_cons_succ]
  refine held_take 1 (oi := { dst := some 5, op := Op.move (Operand.tmp 0), type := 138, pos := "content.go:39", after := #[], guard := none }) (v := ?_) (by kernel_rfl) rfl (by rfl) (by kernel_rfl) (by kernel_rfl) (fun _ _ _ h => h) ?_ (by assumption) ?_
  rotate_left
  · (intro w hSw; (try dsimp only at hSw); go_simp; try with_reducible rfl)
  try simp only [Act.put, List.setIfInBounds_toArray, List.set_cons_zero, List.set_cons_succ]
  refine held_take 2 (oi := { dst := some 6, op := Op.nilCheck (Operand.tmp 5), type := 0, pos := "content.go:39", after := #[{ on := 1, ground := Ground.data }], guard := none }) (v := ?_) (by kernel_rfl) rfl (by rfl) (by kernel_rfl) (by kernel_rfl) (fun _ _ _ h => h) ?_ (by assumption) ?_
  rotate_left
  · (intro w hSw; (try dsimp only at hSw); go_simp; try with_reducible rfl)
  try simp only [Act.put, List.setIfInBounds_toArray, List.set_cons_zero, List.set_cons_succ]
  refine held_take 3 (oi := { dst := some 7, op := Op.fieldAddr 94 (Operand.tmp 6) 2, type := 0, pos := "content.go:39", after := #[{ on := 2, ground := Ground.data }], guard := none }) (v := ?_) (by kernel_rfl) rfl (by rfl) (by kernel_rfl) (by kernel_rfl) (fun _ _ _ h => h) ?_ (by assumption) ?_
  rotate_left
  · (intro w hSw; (try dsimp only at hSw); go_simp; try with_reducible rfl)
  try simp only [Act.put, List.setIfInBounds_toArray, List.set_cons_zero, List.set_cons_succ]
  refine held_take 5 (oi := { dst := some 9, op := Op.fieldAddr 60 (Operand.tmp 3) 2, type := 0, pos := "content.go:39", after := #[], guard := none }) (v := ?_) (by kernel_rfl) rfl (by rfl) (by kernel_rfl) (by kernel_rfl) (fun _ _ _ h => h) ?_ (by assumption) ?_
  rotate_left
  · (intro w hSw; (try dsimp only at hSw); go_simp; try with_reducible rfl)
  try simp only [Act.put, List.setIfInBounds_toArray, List.set_cons_zero, List.set_cons_succ]
  refine held_take 6 (oi := { dst := some 10, op := Op.load 3 (Operand.tmp 9), type := 3, pos := "content.go:39", after := #[{ on := 5, ground := Ground.data }], guard := none }) (v := ?_) (by kernel_rfl) rfl (by rfl) (by kernel_rfl) (by kernel_rfl) (fun _ _ _ h => h) ?_ (by assumption) ?_
  rotate_left
  · (intro w hSw; (try dsimp only at hSw); go_simp; try with_reducible rfl)
  try simp only [Act.put, List.setIfInBounds_toArray, List.set_cons_zero, List.set_cons_succ]
  refine held_take 7 (oi := { dst := some 11, op := Op.move (Operand.tmp 0), type := 138, pos := "content.go:39", after := #[], guard := none }) (v := ?_) (by kernel_rfl) rfl (by rfl) (by kernel_rfl) (by kernel_rfl) (fun _ _ _ h => h) ?_ (by assumption) ?_
  rotate_left
  · (intro w hSw; (try dsimp only at hSw); go_simp; try with_reducible rfl)
  try simp only [Act.put, List.setIfInBounds_toArray, List.set_cons_zero, List.set_cons_succ]
  refine held_take 8 (oi := { dst := some 12, op := Op.nilCheck (Operand.tmp 11), type := 0, pos := "content.go:39", after := #[{ on := 7, ground := Ground.data }], guard := none }) (v := ?_) (by kernel_rfl) rfl (by rfl) (by kernel_rfl) (by kernel_rfl) (fun _ _ _ h => h) ?_ (by assumption) ?_
  rotate_left
  · (intro w hSw; (try dsimp only at hSw); go_simp; try with_reducible rfl)
  try simp only [Act.put, List.setIfInBounds_toArray, List.set_cons_zero, List.set_cons_succ]
  refine held_take 9 (oi := { dst := some 13, op := Op.fieldAddr 94 (Operand.tmp 12) 0, type := 0, pos := "content.go:39", after := #[{ on := 8, ground := Ground.data }], guard := none }) (v := ?_) (by kernel_rfl) rfl (by rfl) (by kernel_rfl) (by kernel_rfl) (fun _ _ _ h => h) ?_ (by assumption) ?_
  rotate_left
  · (intro w hSw; (try dsimp only at hSw); go_simp; try with_reducible rfl)
  try simp only [Act.put, List.setIfInBounds_toArray, List.set_cons_zero, List.set_cons_succ]
  refine held_take 10 (oi := { dst := some 14, op := Op.fieldAddr 31 (Operand.tmp 13) 0, type := 0, pos := "content.go:39", after := #[{ on := 9, ground := Ground.data }], guard := none }) (v := ?_) (by kernel_rfl) rfl (by rfl) (by kernel_rfl) (by kernel_rfl) (fun _ _ _ h => h) ?_ (by assumption) ?_
  rotate_left
  · (intro w hSw; (try dsimp only at hSw); go_simp; try with_reducible rfl)
  try simp only [Act.put, List.setIfInBounds_toArray, List.set_cons_zero, List.set_cons_succ]
  refine held_take 11 (oi := { dst := some 15, op := Op.load 3 (Operand.tmp 14), type := 3, pos := "content.go:39", after := #[{ on := 10, ground := Ground.data }], guard := none }) (v := ?_) (by kernel_rfl) rfl (by rfl) (by kernel_rfl) (by kernel_rfl) (fun _ _ _ h => h) ?_ (by assumption) ?_
  rotate_left
  · (intro w hSw; (try dsimp only at hSw); go_simp; try with_reducible rfl)
  try simp only [Act.put, List.setIfInBounds_toArray, List.set_cons_zero, List.set_cons_succ]
  refine held_take 12 (oi := { dst := some 16, op := Op.binOp BinOp.sub 3 (Operand.tmp 10) (Operand.tmp 15) 3, type := 3, pos := "content.go:39", after := #[{ on := 6, ground := Ground.data }, { on := 11, ground := Ground.data }], guard := none }) (v := ?_) (by kernel_rfl) rfl (by rfl) (by kernel_rfl) (by kernel_rfl) (fun _ _ _ h => h) ?_ (by assumption) ?_
  rotate_left
  · (intro w hSw; (try dsimp only at hSw); go_simp; try with_reducible rfl)
  try simp only [Act.put, List.setIfInBounds_toArray, List.set_cons_zero, List.set_cons_succ]
  refine held_take 13 (oi := { dst := some 17, op := Op.binOp BinOp.sub 3 (Operand.tmp 16) (Operand.const (Value.int IntKind.i64 1)) 3, type := 3, pos := "content.go:39", after := #[{ on := 12, ground := Ground.data }], guard := none }) (v := ?_) (by kernel_rfl) rfl (by rfl) (by kernel_rfl) (by kernel_rfl) (fun _ _ _ h => h) ?_ (by assumption) ?_
  rotate_left
  · (intro w hSw; (try dsimp only at hSw); go_simp; try with_reducible rfl)
  try simp only [Act.put, List.setIfInBounds_toArray, List.set_cons_zero, List.set_cons_succ]
  refine held_take 15 (oi := { dst := some 19, op := Op.load 60 (Operand.tmp 3), type := 60, pos := "content.go:39", after := #[], guard := none }) (v := ?_) (by kernel_rfl) rfl (by rfl) (by kernel_rfl) (by kernel_rfl) (fun _ _ _ h => h) ?_ (by assumption) ?_
  rotate_left
  · (intro w hSw; (try dsimp only at hSw); go_simp; try with_reducible rfl)
  try simp only [Act.put, List.setIfInBounds_toArray, List.set_cons_zero, List.set_cons_succ]
  refine wpAnyH_ready (rs := [4, 16]) (by kernel_rfl) (by simp) ?_
  refine AllReadyH.cons (o := { dst := some 8, op := Op.load 27 (Operand.tmp 7), type := 27, pos := "content.go:39", after := #[{ on := 3, ground := Ground.data }], guard := none }) rfl (fun K hK => ?_) ?_
  · have c4 := ((unhide CT).cells o (unhide HO)).1.2.2.2.2
    go_simp
    clear c4
    refine hK.out _ _ ?_ (fun hHeld => ?_)
    · try dsimp only
      exact unhide KS
    clear hK K
    try simp only [Act.put, List.setIfInBounds_toArray, List.set_cons_zero, List.set_cons_succ]
    refine held_take 14 (oi := { dst := some 18, op := Op.slice 27 (Operand.tmp 8) none (some (Operand.tmp 17)) none, type := 27, pos := "content.go:39", after := #[{ on := 4, ground := Ground.data }, { on := 13, ground := Ground.data }], guard := none }) (v := ?_) (by kernel_rfl) rfl (by rfl) (by kernel_rfl) (by kernel_rfl) (fun _ _ _ h => h) ?_ (by assumption) ?_
    rotate_left
    · (intro w hSw; (try dsimp only at hSw); go_simp; try with_reducible rfl)
    try simp only [Act.put, List.setIfInBounds_toArray, List.set_cons_zero, List.set_cons_succ]
    refine wpAnyH_ready (rs := [16]) (by kernel_rfl) (by simp) ?_
    refine AllReadyH.cons (o := { dst := some 20, op := Op.buildSlice 27 1 #[(0, Operand.tmp 19)], type := 27, pos := "content.go:39", after := #[{ on := 15, ground := Ground.data }], guard := none }) rfl (fun K hK => ?_) ?_
    · refine step_newE rfl 19 rfl _ _ _ _ rfl ?_
      intro E U hEs hEn hbw
      have HE := hide hEn
      have CT := hide ((unhide CT).later hbw)
      have OW := hide ((unhide OW).later hbw)
      have BX := hide ((unhide BX).later hbw)
      have XX := hide (later_block hbw (unhide XX))
      have F := hide ((unhide F).trans (hbw.mono (unhide F).size))
      have HX := hide (Nat.lt_of_lt_of_le (unhide HX) hbw.size)
      have KS := hide (show (U.cell? ⟨w.heap.size, 0, none⟩ = some (.int .i64 (ek : Int)) ∧ U.cell? ⟨w.heap.size, 1, none⟩ = some (.int .i64 (et : Int)) ∧ U.cell? ⟨w.heap.size, 2, none⟩ = some (.int .i64 (ei : Int)) ∧ U.cell? ⟨w.heap.size, 3, none⟩ = some (.slice dp ed.length dc)) ∧ U.cell? ⟨B, o, none⟩ = some (.int .i64 (c.bi : Int)) from ⟨⟨box_cell (unhide XX) 0 _ rfl, box_cell (unhide XX) 1 _ rfl, box_cell (unhide XX) 2 _ rfl, box_cell (unhide XX) 3 _ rfl⟩, ((unhide CT).cells o (unhide HO)).1.1⟩)
      clear hEs hEn hbw
      refine hK.out _ _ ?_ (fun hHeld => ?_)
      · try dsimp only
        exact unhide KS
      clear hK K
      try simp only [Act.put, List.setIfInBounds_toArray, List.set_cons_zero, List.set_cons_succ]
      refine wpAnyH_ready (rs := [17]) (by kernel_rfl) (by simp) ?_
      refine AllReadyH.cons (o := { dst := some 21, op := Op.call { callee := Callee.builtin Builtin.append, args := #[Operand.tmp 18, Operand.tmp 20], argTypes := #[27, 27] }, type := 27, pos := "content.go:39", after := #[{ on := 14, ground := Ground.data }, { on := 16, ground := Ground.data }], guard := none }) rfl (fun K hK => ?_) ?_
      · refine step_appendL rfl (.tmp 18) (.tmp 20) rfl base ep kk ec esK hsK rfl (unhide HLK) (unhide OW) E (ek, et, ei, ed) (dp, dc) rfl (unhide HE) (unhide BX) (by rw [unhide HLK]; omega) (Nat.le_trans (unhide HBS) (unhide F).size) ?_
        intro sp' c' U' hO hg hn'
        have CT := hide ((unhide CT).same (hg.block B (unhide CT).lt (fun e => unhide HB e.symm)))
        have XX := hide ((hg.block _ (unhide HX) (fun e => by have := unhide HEP _ e.symm; omega)).trans (unhide XX))
        have OL := hide hO
        have FU := hide (show ∃ U0, Below w.heap.size w U0 ∧ U0.grownBy U' (blk ep) ∧ (∀ g, blk sp' = some g → blk ep = some g ∨ U0.heap.size ≤ g) from ⟨_, unhide F, hg, hn'⟩)
        have KS := hide (show (U'.cell? ⟨w.heap.size, 0, none⟩ = some (.int .i64 (ek : Int)) ∧ U'.cell? ⟨w.heap.size, 1, none⟩ = some (.int .i64 (et : Int)) ∧ U'.cell? ⟨w.heap.size, 2, none⟩ = some (.int .i64 (ei : Int)) ∧ U'.cell? ⟨w.heap.size, 3, none⟩ = some (.slice dp ed.length dc)) ∧ U'.cell? ⟨B, o, none⟩ = some (.int .i64 (c.bi : Int)) from ⟨⟨box_cell (unhide XX) 0 _ rfl, box_cell (unhide XX) 1 _ rfl, box_cell (unhide XX) 2 _ rfl, box_cell (unhide XX) 3 _ rfl⟩, ((unhide CT).cells o (unhide HO)).1.1⟩)
        clear hO hg hn' F OW BX HE HX
        refine hK.out _ _ ?_ (fun hHeld => ?_)
        · try dsimp only
          exact unhide KS
        clear hK K
        try simp only [Act.put, List.setIfInBounds_toArray, List.set_cons_zero, List.set_cons_succ]
        refine held_take 18 (oi := { dst := some 22, op := Op.nilCheck (Operand.tmp 4), type := 0, pos := "content.go:39", after := #[{ on := 0, ground := Ground.data }, { on := 0, ground := Ground.phase }, { on := 1, ground := Ground.phase }, { on := 2, ground := Ground.phase }, { on := 3, ground := Ground.phase }, { on := 4, ground := Ground.phase }, { on := 5, ground := Ground.phase }, { on := 6, ground := Ground.phase }, { on := 7, ground := Ground.phase }, { on := 8, ground := Ground.phase }, { on := 9, ground := Ground.phase }, { on := 10, ground := Ground.phase }, { on := 11, ground := Ground.phase }, { on := 12, ground := Ground.phase }, { on := 13, ground := Ground.phase }, { on := 14, ground := Ground.phase }, { on := 15, ground := Ground.phase }, { on := 16, ground := Ground.phase }, { on := 17, ground := Ground.phase }], guard := none }) (v := ?_) (by kernel_rfl) rfl (by rfl) (by kernel_rfl) (by kernel_rfl) (fun _ _ _ h => h) ?_ (by assumption) ?_
        rotate_left
        · (intro w hSw; (try dsimp only at hSw); go_simp; try with_reducible rfl)
        try simp only [Act.put, List.setIfInBounds_toArray, List.set_cons_zero, List.set_cons_succ]
        refine held_take 19 (oi := { dst := some 23, op := Op.fieldAddr 94 (Operand.tmp 22) 2, type := 0, pos := "content.go:39", after := #[{ on := 18, ground := Ground.data }, { on := 0, ground := Ground.phase }, { on := 1, ground := Ground.phase }, { on := 2, ground := Ground.phase }, { on := 3, ground := Ground.phase }, { on := 4, ground := Ground.phase }, { on := 5, ground := Ground.phase }, { on := 6, ground := Ground.phase }, { on := 7, ground := Ground.phase }, { on := 8, ground := Ground.phase }, { on := 9, ground := Ground.phase }, { on := 10, ground := Ground.phase }, { on := 11, ground := Ground.phase }, { on := 12, ground := Ground.phase }, { on := 13, ground := Ground.phase }, { on := 14, ground := Ground.phase }, { on := 15, ground := Ground.phase }, { on := 16, ground := Ground.phase }, { on := 17, ground := Ground.phase }], guard := none }) (v := ?_) (by kernel_rfl) rfl (by rfl) (by kernel_rfl) (by kernel_rfl) (fun _ _ _ h => h) ?_ (by assumption) ?_
        rotate_left
        · (intro w hSw; (try dsimp only at hSw); go_simp; try with_reducible rfl)
        try simp only [Act.put, List.setIfInBounds_toArray, List.set_cons_zero, List.set_cons_succ]
        refine wpAnyH_ready (rs := [20]) (by kernel_rfl) (by simp) ?_
        refine AllReadyH.cons (o := { dst := none, op := Op.store 27 (Operand.tmp 23) (Operand.tmp 21), type := 0, pos := "content.go:39", after := #[{ on := 19, ground := Ground.data }, { on := 17, ground := Ground.data }, { on := 17, ground := Ground.chain }, { on := 0, ground := Ground.phase }, { on := 1, ground := Ground.phase }, { on := 2, ground := Ground.phase }, { on := 3, ground := Ground.phase }, { on := 4, ground := Ground.phase }, { on := 5, ground := Ground.phase }, { on := 6, ground := Ground.phase }, { on := 7, ground := Ground.phase }, { on := 8, ground := Ground.phase }, { on := 9, ground := Ground.phase }, { on := 10, ground := Ground.phase }, { on := 11, ground := Ground.phase }, { on := 12, ground := Ground.phase }, { on := 13, ground := Ground.phase }, { on := 14, ground := Ground.phase }, { on := 15, ground := Ground.phase }, { on := 16, ground := Ground.phase }, { on := 17, ground := Ground.phase }], guard := none }) rfl (fun K hK => ?_) ?_
        · have c4 := ((unhide CT).cells o (unhide HO)).1.2.2.2.2
          have f4 := ((unhide CT).cells o (unhide HO)).2 (o + 4)
          have FX := hide (unhide FE U' sp' c' (unhide FU) (unhide OL) (unhide CT))
          have KS := hide (show ((U'.setCell ⟨B, o + 4, none⟩ (.slice sp' (kk + 1) c')).cell? ⟨w.heap.size, 0, none⟩ = some (.int .i64 (ek : Int)) ∧ (U'.setCell ⟨B, o + 4, none⟩ (.slice sp' (kk + 1) c')).cell? ⟨w.heap.size, 1, none⟩ = some (.int .i64 (et : Int)) ∧ (U'.setCell ⟨B, o + 4, none⟩ (.slice sp' (kk + 1) c')).cell? ⟨w.heap.size, 2, none⟩ = some (.int .i64 (ei : Int)) ∧ (U'.setCell ⟨B, o + 4, none⟩ (.slice sp' (kk + 1) c')).cell? ⟨w.heap.size, 3, none⟩ = some (.slice dp ed.length dc)) ∧ (U'.setCell ⟨B, o + 4, none⟩ (.slice sp' (kk + 1) c')).cell? ⟨B, o, none⟩ = some (.int .i64 (c.bi : Int)) by
            obtain ⟨_, _, _, _, ctx, _, _, _⟩ := unhide FX
            have hb0 := (ctx.cells o (unhide HO)).1.1
            obtain ⟨⟨k0, k1, k2, k3⟩, _⟩ := unhide KS
            have hne : w.heap.size ≠ B := by have := (unhide CTL); omega
            rw [cell_aside _ _ hne, cell_aside _ _ hne, cell_aside _ _ hne, cell_aside _ _ hne]
            exact ⟨⟨k0, k1, k2, k3⟩, hb0⟩)
          go_simp
          clear c4 f4
          refine hK.out _ _ ?_ (fun hHeld => ?_)
          · try dsimp only
            exact unhide KS
          clear hK K
          try simp only [Act.put, List.setIfInBounds_toArray, List.set_cons_zero, List.set_cons_succ]
          refine wpAnyH_done (by kernel_rfl) ?_ _
          go_wp2_with fail
          refine bodyPost_ret (results_none rfl _ _ _) rfl ?_
          exact unhide FX
        exact AllReadyH.nil
      exact AllReadyH.nil
    exact AllReadyH.nil
  refine AllReadyH.cons (o := { dst := some 20, op := Op.buildSlice 27 1 #[(0, Operand.tmp 19)], type := 27, pos := "content.go:39", after := #[{ on := 15, ground := Ground.data }], guard := none }) rfl (fun K hK => ?_) ?_
  · refine step_newE rfl 19 rfl _ _ _ _ rfl ?_
    intro E U hEs hEn hbw
    have HE := hide hEn
    have CT := hide ((unhide CT).later hbw)
    have OW := hide ((unhide OW).later hbw)
    have BX := hide ((unhide BX).later hbw)
    have XX := hide (later_block hbw (unhide XX))
    have F := hide ((unhide F).trans (hbw.mono (unhide F).size))
    have HX := hide (Nat.lt_of_lt_of_le (unhide HX) hbw.size)
    have KS := hide (show (U.cell? ⟨w.heap.size, 0, none⟩ = some (.int .i64 (ek : Int)) ∧ U.cell? ⟨w.heap.size, 1, none⟩ = some (.int .i64 (et : Int)) ∧ U.cell? ⟨w.heap.size, 2, none⟩ = some (.int .i64 (ei : Int)) ∧ U.cell? ⟨w.heap.size, 3, none⟩ = some (.slice dp ed.length dc)) ∧ U.cell? ⟨B, o, none⟩ = some (.int .i64 (c.bi : Int)) from ⟨⟨box_cell (unhide XX) 0 _ rfl, box_cell (unhide XX) 1 _ rfl, box_cell (unhide XX) 2 _ rfl, box_cell (unhide XX) 3 _ rfl⟩, ((unhide CT).cells o (unhide HO)).1.1⟩)
    clear hEs hEn hbw
    refine hK.out _ _ ?_ (fun hHeld => ?_)
    · try dsimp only
      exact unhide KS
    clear hK K
    try simp only [Act.put, List.setIfInBounds_toArray, List.set_cons_zero, List.set_cons_succ]
    refine wpAnyH_ready (rs := [4]) (by kernel_rfl) (by simp) ?_
    refine AllReadyH.cons (o := { dst := some 8, op := Op.load 27 (Operand.tmp 7), type := 27, pos := "content.go:39", after := #[{ on := 3, ground := Ground.data }], guard := none }) rfl (fun K hK => ?_) ?_
    · have c4 := ((unhide CT).cells o (unhide HO)).1.2.2.2.2
      go_simp
      clear c4
      refine hK.out _ _ ?_ (fun hHeld => ?_)
      · try dsimp only
        exact unhide KS
      clear hK K
      try simp only [Act.put, List.setIfInBounds_toArray, List.set_cons_zero, List.set_cons_succ]
      refine held_take 14 (oi := { dst := some 18, op := Op.slice 27 (Operand.tmp 8) none (some (Operand.tmp 17)) none, type := 27, pos := "content.go:39", after := #[{ on := 4, ground := Ground.data }, { on := 13, ground := Ground.data }], guard := none }) (v := ?_) (by kernel_rfl) rfl (by rfl) (by kernel_rfl) (by kernel_rfl) (fun _ _ _ h => h) ?_ (by assumption) ?_
      rotate_left
      · (intro w hSw; (try dsimp only at hSw); go_simp; try with_reducible rfl)
      try simp only [Act.put, List.setIfInBounds_toArray, List.set_cons_zero, List.set_cons_succ]
      refine wpAnyH_ready (rs := [17]) (by kernel_rfl) (by simp) ?_
      refine AllReadyH.cons (o := { dst := some 21, op := Op.call { callee := Callee.builtin Builtin.append, args := #[Operand.tmp 18, Operand.tmp 20], argTypes := #[27, 27] }, type := 27, pos := "content.go:39", after := #[{ on := 14, ground := Ground.data }, { on := 16, ground := Ground.data }], guard := none }) rfl (fun K hK => ?_) ?_
      · refine step_appendL rfl (.tmp 18) (.tmp 20) rfl base ep kk ec esK hsK rfl (unhide HLK) (unhide OW) E (ek, et, ei, ed) (dp, dc) rfl (unhide HE) (unhide BX) (by rw [unhide HLK]; omega) (Nat.le_trans (unhide HBS) (unhide F).size) ?_
        intro sp' c' U' hO hg hn'
        have CT := hide ((unhide CT).same (hg.block B (unhide CT).lt (fun e => unhide HB e.symm)))
        have XX := hide ((hg.block _ (unhide HX) (fun e => by have := unhide HEP _ e.symm; omega)).trans (unhide XX))
        have OL := hide hO
        have FU := hide (show ∃ U0, Below w.heap.size w U0 ∧ U0.grownBy U' (blk ep) ∧ (∀ g, blk sp' = some g → blk ep = some g ∨ U0.heap.size ≤ g) from ⟨_, unhide F, hg, hn'⟩)
        have KS := hide (show (U'.cell? ⟨w.heap.size, 0, none⟩ = some (.int .i64 (ek : Int)) ∧ U'.cell? ⟨w.heap.size, 1, none⟩ = some (.int .i64 (et : Int)) ∧ U'.cell? ⟨w.heap.size, 2, none⟩ = some (.int .i64 (ei : Int)) ∧ U'.cell? ⟨w.heap.size, 3, none⟩ = some (.slice dp ed.length dc)) ∧ U'.cell? ⟨B, o, none⟩ = some (.int .i64 (c.bi : Int)) from ⟨⟨box_cell (unhide XX) 0 _ rfl, box_cell (unhide XX) 1 _ rfl, box_cell (unhide XX) 2 _ rfl, box_cell (unhide XX) 3 _ rfl⟩, ((unhide CT).cells o (unhide HO)).1.1⟩)
        clear hO hg hn' F OW BX HE HX
        refine hK.out _ _ ?_ (fun hHeld => ?_)
        · try dsimp only
          exact unhide KS
        clear hK K
        try simp only [Act.put, List.setIfInBounds_toArray, List.set_cons_zero, List.set_cons_succ]
        refine held_take 18 (oi := { dst := some 22, op := Op.nilCheck (Operand.tmp 4), type := 0, pos := "content.go:39", after := #[{ on := 0, ground := Ground.data }, { on := 0, ground := Ground.phase }, { on := 1, ground := Ground.phase }, { on := 2, ground := Ground.phase }, { on := 3, ground := Ground.phase }, { on := 4, ground := Ground.phase }, { on := 5, ground := Ground.phase }, { on := 6, ground := Ground.phase }, { on := 7, ground := Ground.phase }, { on := 8, ground := Ground.phase }, { on := 9, ground := Ground.phase }, { on := 10, ground := Ground.phase }, { on := 11, ground := Ground.phase }, { on := 12, ground := Ground.phase }, { on := 13, ground := Ground.phase }, { on := 14, ground := Ground.phase }, { on := 15, ground := Ground.phase }, { on := 16, ground := Ground.phase }, { on := 17, ground := Ground.phase }], guard := none }) (v := ?_) (by kernel_rfl) rfl (by rfl) (by kernel_rfl) (by kernel_rfl) (fun _ _ _ h => h) ?_ (by assumption) ?_
        rotate_left
        · (intro w hSw; (try dsimp only at hSw); go_simp; try with_reducible rfl)
        try simp only [Act.put, List.setIfInBounds_toArray, List.set_cons_zero, List.set_cons_succ]
        refine held_take 19 (oi := { dst := some 23, op := Op.fieldAddr 94 (Operand.tmp 22) 2, type := 0, pos := "content.go:39", after := #[{ on := 18, ground := Ground.data }, { on := 0, ground := Ground.phase }, { on := 1, ground := Ground.phase }, { on := 2, ground := Ground.phase }, { on := 3, ground := Ground.phase }, { on := 4, ground := Ground.phase }, { on := 5, ground := Ground.phase }, { on := 6, ground := Ground.phase }, { on := 7, ground := Ground.phase }, { on := 8, ground := Ground.phase }, { on := 9, ground := Ground.phase }, { on := 10, ground := Ground.phase }, { on := 11, ground := Ground.phase }, { on := 12, ground := Ground.phase }, { on := 13, ground := Ground.phase }, { on := 14, ground := Ground.phase }, { on := 15, ground := Ground.phase }, { on := 16, ground := Ground.phase }, { on := 17, ground := Ground.phase }], guard := none }) (v := ?_) (by kernel_rfl) rfl (by rfl) (by kernel_rfl) (by kernel_rfl) (fun _ _ _ h => h) ?_ (by assumption) ?_
        rotate_left
        · (intro w hSw; (try dsimp only at hSw); go_simp; try with_reducible rfl)
        try simp only [Act.put, List.setIfInBounds_toArray, List.set_cons_zero, List.set_cons_succ]
        refine wpAnyH_ready (rs := [20]) (by kernel_rfl) (by simp) ?_
        refine AllReadyH.cons (o := { dst := none, op := Op.store 27 (Operand.tmp 23) (Operand.tmp 21), type := 0, pos := "content.go:39", after := #[{ on := 19, ground := Ground.data }, { on := 17, ground := Ground.data }, { on := 17, ground := Ground.chain }, { on := 0, ground := Ground.phase }, { on := 1, ground := Ground.phase }, { on := 2, ground := Ground.phase }, { on := 3, ground := Ground.phase }, { on := 4, ground := Ground.phase }, { on := 5, ground := Ground.phase }, { on := 6, ground := Ground.phase }, { on := 7, ground := Ground.phase }, { on := 8, ground := Ground.phase }, { on := 9, ground := Ground.phase }, { on := 10, ground := Ground.phase }, { on := 11, ground := Ground.phase }, { on := 12, ground := Ground.phase }, { on := 13, ground := Ground.phase }, { on := 14, ground := Ground.phase }, { on := 15, ground := Ground.phase }, { on := 16, ground := Ground.phase }, { on := 17, ground := Ground.phase }], guard := none }) rfl (fun K hK => ?_) ?_
        · have c4 := ((unhide CT).cells o (unhide HO)).1.2.2.2.2
          have f4 := ((unhide CT).cells o (unhide HO)).2 (o + 4)
          have FX := hide (unhide FE U' sp' c' (unhide FU) (unhide OL) (unhide CT))
          have KS := hide (show ((U'.setCell ⟨B, o + 4, none⟩ (.slice sp' (kk + 1) c')).cell? ⟨w.heap.size, 0, none⟩ = some (.int .i64 (ek : Int)) ∧ (U'.setCell ⟨B, o + 4, none⟩ (.slice sp' (kk + 1) c')).cell? ⟨w.heap.size, 1, none⟩ = some (.int .i64 (et : Int)) ∧ (U'.setCell ⟨B, o + 4, none⟩ (.slice sp' (kk + 1) c')).cell? ⟨w.heap.size, 2, none⟩ = some (.int .i64 (ei : Int)) ∧ (U'.setCell ⟨B, o + 4, none⟩ (.slice sp' (kk + 1) c')).cell? ⟨w.heap.size, 3, none⟩ = some (.slice dp ed.length dc)) ∧ (U'.setCell ⟨B, o + 4, none⟩ (.slice sp' (kk + 1) c')).cell? ⟨B, o, none⟩ = some (.int .i64 (c.bi : Int)) by
            obtain ⟨_, _, _, _, ctx, _, _, _⟩ := unhide FX
            have hb0 := (ctx.cells o (unhide HO)).1.1
            obtain ⟨⟨k0, k1, k2, k3⟩, _⟩ := unhide KS
            have hne : w.heap.size ≠ B := by have := (unhide CTL); omega
            rw [cell_aside _ _ hne, cell_aside _ _ hne, cell_aside _ _ hne, cell_aside _ _ hne]
            exact ⟨⟨k0, k1, k2, k3⟩, hb0⟩)
          go_simp
          clear c4 f4
          refine hK.out _ _ ?_ (fun hHeld => ?_)
          · try dsimp only
            exact unhide KS
          clear hK K
          try simp only [Act.put, List.setIfInBounds_toArray, List.set_cons_zero, List.set_cons_succ]
          refine wpAnyH_done (by kernel_rfl) ?_ _
          go_wp2_with fail
          refine bodyPost_ret (results_none rfl _ _ _) rfl ?_
          exact unhide FX
        exact AllReadyH.nil
      exact AllReadyH.nil
    exact AllReadyH.nil
  exact AllReadyH.nil
end
end Go.Proofs.YtijcpmbfhfppmaaGreatDoor
