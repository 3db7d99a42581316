/- Logs: terms that are wanted of a log, and entries that will be added to it. -/
import Derived.Test.YtijcpmbfhfppmaaGreatDoorWgj
namespace Go.Proofs.YtijcpmbfhfppmaaGreatDoor
open Go.ChangeShapes Go.WideShapes Go.ChangeAt Go.RowKit
set_option linter.unusedVariables false

theorem one_inG {P : Nat → Prop} {W : World} {E : Nat} {t i : Int} (h : W.heap[E]? = some (.cells #[.int .i64 1, .int .i64 t, .int .i64 i, .slice none 0 0] 60 (0, 0))) (hP : P E) : EntsIn P W (some ⟨E, 0, none⟩) [(1, t, i, [])] := by
  refine ⟨⟨fun j hj => ?_⟩, fun b off e h0 => ?_, fun j hj b off dp dc n e hc g o e1 h0 => ?_⟩
  · obtain rfl : j = 0 := by simp at hj; omega
    exact ⟨E, 0, none, 0, rfl, box_cell h 0 _ rfl, box_cell h 1 _ rfl, box_cell h 2 _ rfl, box_cell h 3 _ rfl, ⟨by simp, fun j hj => by simp at hj⟩, fun _ => rfl⟩
  · cases e
    exact hP
  · obtain rfl : j = 0 := by simp at hj; omega
    simp at h0
/-- The log with these terms, and the numbers that are wanted of it. -/
def Ov (base : Nat) (w0 wr : World) (L d M : Nat) (sp : Option Addr) (k : Nat) (ts : List Nat) (x : Nat) : Prop :=
  ∃ Av N ss r1 r2 ep ec hs, WAt Av base wr L d M 262144 N ss (cW ts) 1 ep ec hs ∧ LS 262144 ss (cW ts) 1 r1 r2 ∧ (cat (r1 ++ r2)).length ≤ 22 + 40 * x ∧ N ≤ 2 + 2 * x ∧ OwnI base wr sp k (ts.map Int.ofNat) ∧ (∀ g, blk sp = some g → Av g) ∧ Below base w0 wr
theorem Ov.want {base : Nat} {w0 wr W1 W2 : World} {L d M : Nat} {sp sp' : Option Addr} {k k' : Nat} {ts us : List Nat} {x : Nat} (h : Ov base w0 wr L d M sp k ts x) (u : Below wr.heap.size wr W1) (hg : Grew W1 sp W2 sp') (ho : OwnI base W2 sp' k' (us.map Int.ofNat)) :
    ∃ Av N ss r1 r2 ep ec hs, WAt Av base W2 L d M 262144 N ss (cW ts) 1 ep ec hs ∧ LS 262144 ss (cW ts) 1 r1 r2 ∧ (cat (r1 ++ r2)).length ≤ 22 + 40 * x ∧ N ≤ 2 + 2 * x ∧ OwnI base W2 sp' k' (us.map Int.ofNat) ∧ (∀ g, blk sp' = some g → Av g) ∧ Below base w0 W2 := by
  obtain ⟨Av, N, ss, r1, r2, ep, ec, hs, z, ls, h1, h2, o, ha, hb⟩ := h
  have hz := z.dk.le
  have hb2 : Below base wr W2 := by
    refine ⟨hg.grown.os.trans u.os, hg.grown.tape.trans u.tape, hg.grown.output.trans u.output, Nat.le_trans u.size hg.grown.size, fun g hgb => ?_⟩
    refine (hg.grown.block g (by have := u.size; omega) (fun e => ?_)).trans (u.block g (by omega))
    have := (o.blk_lt g e.symm).1
    omega
  refine ⟨_, N, ss, r1, r2, ep, ec, hs, z.grow (w' := W2) (fun g hg1 hn => ?_) hb2, ls, h1, h2, ho, fun g hg1 => ?_, hb.trans hb2⟩
  · exact (hg.grown.block g (by have := u.size; omega) (fun e => hn (ha g e.symm))).trans (u.block g hg1)
  · rcases hg.lies g hg1 with q | q
    · exact .inl (ha g q)
    · exact .inr ⟨by have := u.size; omega, (ho.blk_lt g hg1).2⟩
/-- Beside them the entries that will be added. -/
structure Ow (base : Nat) (w0 wr : World) (L d M : Nat) (sp : Option Addr) (k : Nat) (vs ts : List Nat) (x : Nat) (lp : Option Addr) (lk kk : Nat) (us : List Nat) : Prop where
  ex : ∃ Av N ss r1 r2 ep ec hs, WAt Av base wr L d M 262144 N ss (cW ts) 1 ep ec hs ∧ LS 262144 ss (cW ts) 1 r1 r2 ∧ (cat (r1 ++ r2)).length ≤ 22 + 40 * x ∧ N ≤ 2 + 2 * x ∧ OwnI base wr sp k (vs.map Int.ofNat) ∧ (∀ g, blk sp = some g → Av g) ∧ ∃ hs2, OwnL base wr lp lk (nops kk us) hs2 ∧ (∀ h ∈ hs2, h.1 = none) ∧ ∀ g, LFoot lp hs2 g → Av g
  bel : Below base w0 wr
section
variable {base : Nat} {w0 wr W1 W2 : World} {L d M : Nat} {sp : Option Addr} {k : Nat} {vs ts : List Nat} {x : Nat} {lp : Option Addr} {lk kk : Nat} {us : List Nat}
theorem Ow.start (h : Ov base w0 wr L d M sp k ts x) : Ow base w0 wr L d M sp k ts ts x none 0 kk [] := by
  obtain ⟨Av, N, ss, r1, r2, ep, ec, hs, z, ls, h1, h2, o, ha, hb⟩ := h
  exact ⟨⟨Av, N, ss, r1, r2, ep, ec, hs, z, ls, h1, h2, o, ha, [], OwnL.ofNil _ _, by simp, fun g hg => by
    rcases hg with hg | ⟨_, hx, _⟩
    · cases hg
    · simp at hx⟩, hb⟩
theorem Ow.ents (h : Ow base w0 wr L d M sp k vs ts x lp lk kk us) : ∃ hs2, OwnL base wr lp lk (nops kk us) hs2 ∧ ∀ h ∈ hs2, h.1 = none := by
  obtain ⟨Av, N, ss, r1, r2, ep, ec, hs, z, ls, h1, h2, o, ha, hs2, o2, hn, hf⟩ := h.ex
  exact ⟨hs2, o2, hn⟩
theorem nops_snoc (kk y : Nat) (us : List Nat) : nops kk us ++ [(1, y, kk + us.length + 1, [])] = nops kk (us ++ [y]) := by
  simp [nops, List.mapIdx_append]
theorem Ow.more (h : Ow base w0 wr L d M sp k vs ts x lp lk kk us) (u : Below wr.heap.size wr W1) {i y : Nat} (hi : us.length = i) {hs4 : List (Option Addr × Nat)} (f4 : ∀ h ∈ hs4, h.1 = none) {lp2 : Option Addr} {lk2 : Nat}
    (ho : OwnL base W2 lp2 lk2 (nops kk us ++ [(1, y, kk + i + 1, [])]) (hs4 ++ [(none, 0)])) (hg : W1.grownBy W2 (blk lp)) (hl : ∀ g, blk lp2 = some g → blk lp = some g ∨ W1.heap.size ≤ g) : Ow base w0 W2 L d M sp k vs ts x lp2 lk2 kk (us ++ [y]) := by
  subst hi
  rw [nops_snoc] at ho
  obtain ⟨⟨Av, N, ss, r1, r2, ep, ec, hs, z, ls, h1, h2, o, ha, hs2, o2, hn, hf⟩, hb⟩ := h
  have hz := z.dk.le
  have hb2 : Below base wr W2 := by
    refine ⟨hg.os.trans u.os, hg.tape.trans u.tape, hg.output.trans u.output, Nat.le_trans u.size hg.size, fun g hgb => ?_⟩
    refine (hg.block g (by have := u.size; omega) (fun e => ?_)).trans (u.block g (by omega))
    have := (o2.foot g (.inl e.symm)).1
    omega
  refine ⟨⟨_, N, ss, r1, r2, ep, ec, hs, z.grow (w' := W2) (fun g hg1 hn => ?_) hb2, ls, h1, h2, (o.later u).kept hg (fun g hg1 e => ?_), fun g hg1 => .inl (ha g hg1), _, ho, fun h hh => ?_, fun g hg1 => ?_⟩, hb.trans hb2⟩
  · exact (hg.block g (by have := u.size; omega) (fun e => hn (hf g (.inl e.symm)))).trans (u.block g hg1)
  · obtain ⟨_, _, cur, T, q1, q2⟩ := o2.foot g (.inl e)
    rcases o.owns.2 with ⟨hv, _⟩ | ⟨g', cap, cur', hv, _, hgg, _⟩
    · simp only [Value.slice.injEq] at hv
      rw [hv.1] at hg1
      cases hg1
    · simp only [Value.slice.injEq] at hv
      rw [hv.1] at hg1
      cases hg1
      rw [hgg] at q1
      injection Option.some.inj q1 with _ q3
      rcases q2 with q2 | q2 <;> rw [q2] at q3 <;> exact absurd q3 (by decide)
  · rcases List.mem_append.1 hh with hh | hh
    · exact f4 h hh
    · rw [List.mem_singleton.1 hh]
  · have hq : blk lp2 = some g := by
      rcases hg1 with q | ⟨y, hy, q⟩
      · exact q
      · rcases List.mem_append.1 hy with hy | hy
        · rw [f4 y hy] at q; cases q
        · rw [List.mem_singleton.1 hy] at q; cases q
    rcases hl g hq with q | q
    · exact .inl (hf g (.inl q))
    · exact .inr ⟨by have := u.size; omega, (ho.foot g (.inl hq)).2.1⟩
/-- The numbers grow. -/
theorem Ow.want (h : Ow base w0 wr L d M sp k vs ts x lp lk kk us) (u : Below wr.heap.size wr W1) {sp2 : Option Addr} {k2 : Nat} {vs2 : List Nat} (hg : Grew W1 sp W2 sp2) (ho : OwnI base W2 sp2 k2 (vs2.map Int.ofNat)) : Ow base w0 W2 L d M sp2 k2 vs2 ts x lp lk kk us := by
  obtain ⟨⟨Av, N, ss, r1, r2, ep, ec, hs, z, ls, h1, h2, o, ha, hs2, o2, hn, hf⟩, hb⟩ := h
  have hz := z.dk.le
  have hb2 : Below base wr W2 := by
    refine ⟨hg.grown.os.trans u.os, hg.grown.tape.trans u.tape, hg.grown.output.trans u.output, Nat.le_trans u.size hg.grown.size, fun g hgb => ?_⟩
    refine (hg.grown.block g (by have := u.size; omega) (fun e => ?_)).trans (u.block g (by omega))
    have := (o.blk_lt g e.symm).1
    omega
  refine ⟨⟨_, N, ss, r1, r2, ep, ec, hs, z.grow (w' := W2) (fun g hg1 hn => ?_) hb2, ls, h1, h2, ho, fun g hg1 => ?_, hs2, o2.same (fun g hg1 => ?_), hn, fun g hg1 => .inl (hf g hg1)⟩, hb.trans hb2⟩
  · exact (hg.grown.block g (by have := u.size; omega) (fun e => hn (ha g e.symm))).trans (u.block g hg1)
  · rcases hg.lies g hg1 with q | q
    · exact .inl (ha g q)
    · exact .inr ⟨by have := u.size; omega, (ho.blk_lt g hg1).2⟩
  · obtain ⟨_, q0, cur, T, q1, q2⟩ := o2.foot g hg1
    refine (hg.grown.block g (by have := u.size; omega) (fun e => ?_)).trans (u.block g q0)
    rcases o.owns.2 with ⟨hv, _⟩ | ⟨g', cap, cur', hv, _, hgg, _⟩
    · simp only [Value.slice.injEq] at hv
      rw [hv.1] at e
      cases e
    · simp only [Value.slice.injEq] at hv
      rw [hv.1] at e
      cases e
      rw [hgg] at q1
      injection Option.some.inj q1 with _ q3
      rcases q2 with q2 | q2 <;> rw [q2] at q3 <;> exact absurd q3 (by decide)
theorem OwnI.takeK {w : World} {sp : Option Addr} {c : Nat} {l : List Int} (h : OwnI base w sp c l) (m : Nat) (hm : m ≤ l.length) : OwnI base w sp c (l.take m) := by
  have hl : (l.take m).length = m := by rw [List.length_take]; omega
  refine ⟨?_, fun n hn => h.bd n (List.mem_of_mem_take hn)⟩
  rw [hl]
  refine ⟨by rw [List.length_map, hl]; omega, ?_⟩
  rcases h.owns.2 with ⟨hv, h0⟩ | ⟨g, cap, cur, hv, hb, hg, hle, hmx, hsz, ht⟩
  · simp only [Value.slice.injEq] at hv
    obtain ⟨rfl, _, rfl⟩ := hv
    exact .inl ⟨by rw [show m = 0 by omega], by omega⟩
  · simp only [Value.slice.injEq] at hv
    obtain ⟨rfl, _, rfl⟩ := hv
    refine .inr ⟨g, c, cur, rfl, hb, hg, by omega, hmx, hsz, ?_⟩
    rw [List.map_take, ← ht, List.take_take]
    congr 1
    omega
theorem Ow.cut (h : Ow base w0 wr L d M sp k vs ts x lp lk kk us) (m : Nat) (hm : m ≤ vs.length) : Ow base w0 wr L d M sp k (vs.take m) ts x lp lk kk us := by
  obtain ⟨⟨Av, N, ss, r1, r2, ep, ec, hs, z, ls, h1, h2, o, r⟩, hb⟩ := h
  refine ⟨⟨Av, N, ss, r1, r2, ep, ec, hs, z, ls, h1, h2, ?_, r⟩, hb⟩
  rw [List.map_take]
  exact o.takeK m (by rw [List.length_map]; exact hm)
theorem Ow.ints (h : Ow base w0 wr L d M sp k vs ts x lp lk kk us) : OwnI base wr sp k (vs.map Int.ofNat) := by
  obtain ⟨Av, N, ss, r1, r2, ep, ec, hs, z, ls, h1, h2, o, r⟩ := h.ex
  exact o
theorem Ow.later (h : Ow base w0 wr L d M sp k vs ts x lp lk kk us) (u : Below wr.heap.size wr W1) : Ow base w0 W1 L d M sp k vs ts x lp lk kk us := by
  obtain ⟨⟨Av, N, ss, r1, r2, ep, ec, hs, z, ls, h1, h2, o, ha, hs2, o2, r⟩, hb⟩ := h
  exact ⟨⟨Av, N, ss, r1, r2, ep, ec, hs, z.later u, ls, h1, h2, o.later u, ha, hs2, o2.later u, r⟩, hb.trans (u.mono z.dk.le |>.mono (Nat.le_refl _))⟩
end
/-- What the terms are behind it. -/
def owL (kk : Nat) (ts us : List Nat) : List Nat := if us = [] then ts else ts.take kk ++ us
theorem ow_any {ss : Ds} {ts us : List Nat} {r1 r2 : List (List Nat)} (h : LS 262144 ss (cW ts) 1 r1 r2) {k : Nat} (hk : k ≤ ts.length) (hu : ∀ u ∈ us, 1 ≤ u ∧ u ≤ 256) (hl : k + us.length ≤ 1000) (hs : (cat (r1 ++ r2)).length + 40 * us.length ≤ 262144) :
    ∃ ss', wAppend 262144 1 (cW ts) ((nops k us).map toI) ss = (0, ss', cW (owL k ts us), 1) := by
  unfold owL
  by_cases h0 : us = []
  · subst h0
    exact ⟨ss, rfl⟩
  · rw [if_neg h0]
    obtain ⟨ss', e, _⟩ := ow_step h hk h0 hu hl (by omega)
    exact ⟨ss', e⟩
theorem elemI : Tryz.prog.underlying 32 = some (.slice (Tryz.prog.elem 32)) := by kernel_rfl
theorem sizeOfI (u : World) : (sizeOf (Tryz.prog.elem 32)).run Tryz.prog u = .ok 1 u := by kernel_rfl
theorem run_slice_hI (a : Option Addr) (len cap hi : Nat) (ha : ∀ ad, a = some ad → ∃ g, ad = ⟨g, 0, none⟩) (h2 : hi ≤ cap) (u : World) :
    (Instr.slice 32 (.slice a len cap) none (some (.int .i64 (hi : Int))) none).run Tryz.prog u = .ok (.slice a hi cap) u := by
  rw [run_slice_h (w := u) 32 a len cap elemI .i64 (hi : Int) (by omega) (by omega), sizeOfI]
  have hz := slp_zero a cap ha
  unfold slp at hz
  simp [Result.andThen, sliced]
  simpa using hz
theorem OwnI.root {base : Nat} {w : World} {sp : Option Addr} {c : Nat} {l : List Int} (h : OwnI base w sp c l) : ∀ ad, sp = some ad → ∃ g, ad = ⟨g, 0, none⟩ := by
  rcases h.owns.2 with ⟨hv, h0⟩ | ⟨g, cap, cur, hv, _⟩
  · simp only [Value.slice.injEq] at hv
    intro ad e
    rw [hv.1] at e
    cases e
  · simp only [Value.slice.injEq] at hv
    intro ad e
    rw [hv.1] at e
    exact ⟨g, (Option.some.inj e).symm⟩
theorem term_cW (ts : List Nat) (i : Nat) (hi : i < ts.length) : termW (cW ts) ((i : Int) + 1) = (((ts.getD i 0 : Nat) : Int), true) := by
  unfold termW
  have h1 : (cW ts).es.length = ts.length := nops_len 0 ts
  rw [if_neg (by simp only [cW]; omega), if_pos (by rw [h1]; simp only [cW]; omega)]
  have h2 : (((i : Int) + 1) - ((cW ts).bi : Int) - 1).toNat = i := by simp only [cW]; omega
  rw [h2, List.getD_eq_getElem?_getD, List.getElem?_eq_getElem (by rw [h1]; exact hi), Option.getD_some, List.getD_eq_getElem?_getD, List.getElem?_eq_getElem hi]
  have e : (cW ts).es[i]'(by rw [h1]; exact hi) = (1, ts[i], 0 + i + 1, []) := nops_at 0 ts i (by rw [nops_len]; exact hi)
  rw [e]
  rfl
theorem cW_ix (ts : List Nat) : Ix (cW ts) := fun j hj => by
  have e : (cW ts).es[j] = (1, ts[j]'(by rw [← nops_len 0 ts]; exact hj), 0 + j + 1, []) := nops_at 0 ts j hj
  rw [e]
  simp only [cW]
  omega
theorem term_cW_no (ts : List Nat) : termW (cW ts) ((ts.length : Int) + 1) = (0, false) := by
  unfold termW
  have h1 : (cW ts).es.length = ts.length := nops_len 0 ts
  rw [if_neg (by simp only [cW]; omega), if_neg (by rw [h1]; simp only [cW]; omega)]
theorem wpList_appendL2 {w : World} {ops : Array Oper} {rest : List Oper} {o : Oper} {a : Act} {Q : Exit → Act → World → Prop} (hgd : o.guard = none) (s x : Operand)
    (ho : o.op = .call { callee := .builtin .append, args := #[s, x], argTypes := #[27, 27] })
    (base : Nat) (sp : Option Addr) (n c : Nat) (es : List EntN) (hs : List (Option Addr × Nat)) (hsv : a.eval s = .slice sp n c) (hn : es.length = n) (hown : OwnL base w sp c es hs) (B : Nat) (e : EntN) (h : Option Addr × Nat) (hx : a.eval x = .slice (some ⟨B, 0, none⟩) 1 1)
    (hB : w.heap[B]? = some (.cells (entRow e h).toArray 60 (0, 0))) (hd : Bx base w h.1 h.2 e.2.2.2) (hlen : es.length ≤ 1048576) (hbase : base ≤ w.heap.size)
    (hk : ∀ sp' c' w', OwnL base w' sp' c' (es ++ [e]) (hs ++ [h]) → w.grownBy w' (blk sp) → (∀ g, blk sp' = some g → blk sp = some g ∨ w.heap.size ≤ g) → wpList Tryz.prog ops Q rest (a.put o.dst (.slice sp' (n + 1) c')) w') :
    wpList Tryz.prog ops Q (o :: rest) a w := by
  subst hn
  refine wpList_plain hgd fun K hK => ?_
  obtain ⟨sp', c', w', hrun, h1, h2, h3⟩ := run_appendL (w := w) hown B e h hB hd hlen hbase o.type
  unfold Oper.wp
  simp [execOp, ho, resolve, invoke, builtin, hsv, hx, hrun, Result.andThen]
  exact hK _ _ (hk sp' c' w' h1 h2 h3)
theorem adds_is (l : List Nat) (j : Nat) (hj : j < l.length) : ((l.take (j + 1)).map (· + 1)) = (l.take j).map (· + 1) ++ [l.getD j 0 + 1] := by
  rw [List.take_succ_eq_append_getElem hj, List.map_append, List.getD_eq_getElem?_getD, List.getElem?_eq_getElem hj]
  rfl
end Go.Proofs.YtijcpmbfhfppmaaGreatDoor
