/- Logs: terms that are wanted of a log, and entries that will be added to it. -/
import Derived.Test.YtijcpmbfhfppmaaGreatDoorB29
import Derived.Test.YtijcpmbfhfppmaaGreatDoorB07
import Derived.BigQuiet
import Derived.Laws.OwnMore
import Derived.Laws.AppendOwnNone
import Derived.Test.YtijcpmbfhfppmaaGreatDoorB27
section
namespace Go.Proofs.YtijcpmbfhfppmaaGreatDoor
open Go.ChangeShapes Go.WideShapes Go.ChangeAt Go.RowKit
set_option linter.unusedVariables false

theorem one_inG {P : Nat → Prop} {W : World} {E : Nat} {t i : Int} (h : W.heap[E]? = some (.cells #[.int .i64 1, .int .i64 t, .int .i64 i, .slice none 0 0] 60 (0, 0))) (hP : P E) : EntsIn P W (some ⟨E, 0, none⟩) [(1, t, i, [])] := by
  refine ⟨⟨fun j hj => ?_⟩, fun b off e h0 => ?_, fun j hj b off dp dc n e hc g o e1 h0 => ?_⟩
  · obtain rfl : j = 0 := by simp at hj; omega
    exact ⟨E, 0, none, 0, rfl, box_cell h 0 _ rfl, box_cell h 1 _ rfl, box_cell h 2 _ rfl, box_cell h 3 _ rfl, ⟨by simp, fun j hj => by simp at hj⟩, fun _ => rfl⟩
  · cases e
    exact hP
  · obtain rfl : j = 0 := by simp at hj; omega
    simp at h0
/-- The log with these terms, and the numbers that are wanted of it. -/
def Ov (base : Nat) (w0 wr : World) (L d M : Nat) (sp : Option Addr) (k : Nat) (ts : List Nat) (x : Nat) : Prop :=
  ∃ Av N ss r1 r2 ep ec hs, WAt Av base wr L d M 262144 N ss (cW ts) 1 ep ec hs ∧ LS 262144 ss (cW ts) 1 r1 r2 ∧ (cat (r1 ++ r2)).length ≤ 22 + 40 * x ∧ N ≤ 2 + 2 * x ∧ OwnI base wr sp k (ts.map Int.ofNat) ∧ (∀ g, blk sp = some g → Av g) ∧ Below base w0 wr
theorem Ov.want {base : Nat} {w0 wr W1 W2 : World} {L d M : Nat} {sp sp' : Option Addr} {k k' : Nat} {ts us : List Nat} {x : Nat} (h : Ov base w0 wr L d M sp k ts x) (u : Below wr.heap.size wr W1) (hg : Grew W1 sp W2 sp') (ho : OwnI base W2 sp' k' (us.map Int.ofNat)) :
    ∃ Av N ss r1 r2 ep ec hs, WAt Av base W2 L d M 262144 N ss (cW ts) 1 ep ec hs ∧ LS 262144 ss (cW ts) 1 r1 r2 ∧ (cat (r1 ++ r2)).length ≤ 22 + 40 * x ∧ N ≤ 2 + 2 * x ∧ OwnI base W2 sp' k' (us.map Int.ofNat) ∧ (∀ g, blk sp' = some g → Av g) ∧ Below base w0 W2 := by
  obtain ⟨Av, N, ss, r1, r2, ep, ec, hs, z, ls, h1, h2, o, ha, hb⟩ := h
  have hz := z.dk.le
  have hb2 : Below base wr W2 := by
    refine ⟨hg.grown.os.trans u.os, hg.grown.tape.trans u.tape, hg.grown.output.trans u.output, Nat.le_trans u.size hg.grown.size, fun g hgb => ?_⟩
    refine (hg.grown.block g (by have := u.size; omega) (fun e => ?_)).trans (u.block g (by omega))
    have := (o.blk_lt g e.symm).1
    omega
  refine ⟨_, N, ss, r1, r2, ep, ec, hs, z.grow (w' := W2) (fun g hg1 hn => ?_) hb2, ls, h1, h2, ho, fun g hg1 => ?_, hb.trans hb2⟩
  · exact (hg.grown.block g (by have := u.size; omega) (fun e => hn (ha g e.symm))).trans (u.block g hg1)
  · rcases hg.lies g hg1 with q | q
    · exact .inl (ha g q)
    · exact .inr ⟨by have := u.size; omega, (ho.blk_lt g hg1).2⟩
/-- Beside them the entries that will be added. -/
structure Ow (base : Nat) (w0 wr : World) (L d M : Nat) (sp : Option Addr) (k : Nat) (vs ts : List Nat) (x : Nat) (lp : Option Addr) (lk kk : Nat) (us : List Nat) : Prop where
  ex : ∃ Av N ss r1 r2 ep ec hs, WAt Av base wr L d M 262144 N ss (cW ts) 1 ep ec hs ∧ LS 262144 ss (cW ts) 1 r1 r2 ∧ (cat (r1 ++ r2)).length ≤ 22 + 40 * x ∧ N ≤ 2 + 2 * x ∧ OwnI base wr sp k (vs.map Int.ofNat) ∧ (∀ g, blk sp = some g → Av g) ∧ ∃ hs2, OwnL base wr lp lk (nops kk us) hs2 ∧ (∀ h ∈ hs2, h.1 = none) ∧ ∀ g, LFoot lp hs2 g → Av g
  bel : Below base w0 wr
section
variable {base : Nat} {w0 wr W1 W2 : World} {L d M : Nat} {sp : Option Addr} {k : Nat} {vs ts : List Nat} {x : Nat} {lp : Option Addr} {lk kk : Nat} {us : List Nat}
theorem Ow.start (h : Ov base w0 wr L d M sp k ts x) : Ow base w0 wr L d M sp k ts ts x none 0 kk [] := by
  obtain ⟨Av, N, ss, r1, r2, ep, ec, hs, z, ls, h1, h2, o, ha, hb⟩ := h
  exact ⟨⟨Av, N, ss, r1, r2, ep, ec, hs, z, ls, h1, h2, o, ha, [], OwnL.ofNil _ _, by simp, fun g hg => by
    rcases hg with hg | ⟨_, hx, _⟩
    · cases hg
    · simp at hx⟩, hb⟩
theorem Ow.ents (h : Ow base w0 wr L d M sp k vs ts x lp lk kk us) : ∃ hs2, OwnL base wr lp lk (nops kk us) hs2 ∧ ∀ h ∈ hs2, h.1 = none := by
  obtain ⟨Av, N, ss, r1, r2, ep, ec, hs, z, ls, h1, h2, o, ha, hs2, o2, hn, hf⟩ := h.ex
  exact ⟨hs2, o2, hn⟩
theorem nops_snoc (kk y : Nat) (us : List Nat) : nops kk us ++ [(1, y, kk + us.length + 1, [])] = nops kk (us ++ [y]) := by
  simp [nops, List.mapIdx_append]
theorem Ow.more (h : Ow base w0 wr L d M sp k vs ts x lp lk kk us) (u : Below wr.heap.size wr W1) {i y : Nat} (hi : us.length = i) {hs4 : List (Option Addr × Nat)} (f4 : ∀ h ∈ hs4, h.1 = none) {lp2 : Option Addr} {lk2 : Nat}
    (ho : OwnL base W2 lp2 lk2 (nops kk us ++ [(1, y, kk + i + 1, [])]) (hs4 ++ [(none, 0)])) (hg : W1.grownBy W2 (blk lp)) (hl : ∀ g, blk lp2 = some g → blk lp = some g ∨ W1.heap.size ≤ g) : Ow base w0 W2 L d M sp k vs ts x lp2 lk2 kk (us ++ [y]) := by
  subst hi
  rw [nops_snoc] at ho
  obtain ⟨⟨Av, N, ss, r1, r2, ep, ec, hs, z, ls, h1, h2, o, ha, hs2, o2, hn, hf⟩, hb⟩ := h
  have hz := z.dk.le
  have hb2 : Below base wr W2 := by
    refine ⟨hg.os.trans u.os, hg.tape.trans u.tape, hg.output.trans u.output, Nat.le_trans u.size hg.size, fun g hgb => ?_⟩
    refine (hg.block g (by have := u.size; omega) (fun e => ?_)).trans (u.block g (by omega))
    have := (o2.foot g (.inl e.symm)).1
    omega
  refine ⟨⟨_, N, ss, r1, r2, ep, ec, hs, z.grow (w' := W2) (fun g hg1 hn => ?_) hb2, ls, h1, h2, (o.later u).kept hg (fun g hg1 e => ?_), fun g hg1 => .inl (ha g hg1), _, ho, fun h hh => ?_, fun g hg1 => ?_⟩, hb.trans hb2⟩
  · exact (hg.block g (by have := u.size; omega) (fun e => hn (hf g (.inl e.symm)))).trans (u.block g hg1)
  · obtain ⟨_, _, cur, T, q1, q2⟩ := o2.foot g (.inl e)
    rcases o.owns.2 with ⟨hv, _⟩ | ⟨g', cap, cur', hv, _, hgg, _⟩
    · simp only [Value.slice.injEq] at hv
      rw [hv.1] at hg1
      cases hg1
    · simp only [Value.slice.injEq] at hv
      rw [hv.1] at hg1
      cases hg1
      rw [hgg] at q1
      injection Option.some.inj q1 with _ q3
      rcases q2 with q2 | q2 <;> rw [q2] at q3 <;> exact absurd q3 (by decide)
  · rcases List.mem_append.1 hh with hh | hh
    · exact f4 h hh
    · rw [List.mem_singleton.1 hh]
  · have hq : blk lp2 = some g := by
      rcases hg1 with q | ⟨y, hy, q⟩
      · exact q
      · rcases List.mem_append.1 hy with hy | hy
        · rw [f4 y hy] at q; cases q
        · rw [List.mem_singleton.1 hy] at q; cases q
    rcases hl g hq with q | q
    · exact .inl (hf g (.inl q))
    · exact .inr ⟨by have := u.size; omega, (ho.foot g (.inl hq)).2.1⟩
/-- The numbers grow. -/
theorem Ow.want (h : Ow base w0 wr L d M sp k vs ts x lp lk kk us) (u : Below wr.heap.size wr W1) {sp2 : Option Addr} {k2 : Nat} {vs2 : List Nat} (hg : Grew W1 sp W2 sp2) (ho : OwnI base W2 sp2 k2 (vs2.map Int.ofNat)) : Ow base w0 W2 L d M sp2 k2 vs2 ts x lp lk kk us := by
  obtain ⟨⟨Av, N, ss, r1, r2, ep, ec, hs, z, ls, h1, h2, o, ha, hs2, o2, hn, hf⟩, hb⟩ := h
  have hz := z.dk.le
  have hb2 : Below base wr W2 := by
    refine ⟨hg.grown.os.trans u.os, hg.grown.tape.trans u.tape, hg.grown.output.trans u.output, Nat.le_trans u.size hg.grown.size, fun g hgb => ?_⟩
    refine (hg.grown.block g (by have := u.size; omega) (fun e => ?_)).trans (u.block g (by omega))
    have := (o.blk_lt g e.symm).1
    omega
  refine ⟨⟨_, N, ss, r1, r2, ep, ec, hs, z.grow (w' := W2) (fun g hg1 hn => ?_) hb2, ls, h1, h2, ho, fun g hg1 => ?_, hs2, o2.same (fun g hg1 => ?_), hn, fun g hg1 => .inl (hf g hg1)⟩, hb.trans hb2⟩
  · exact (hg.grown.block g (by have := u.size; omega) (fun e => hn (ha g e.symm))).trans (u.block g hg1)
  · rcases hg.lies g hg1 with q | q
    · exact .inl (ha g q)
    · exact .inr ⟨by have := u.size; omega, (ho.blk_lt g hg1).2⟩
  · obtain ⟨_, q0, cur, T, q1, q2⟩ := o2.foot g hg1
    refine (hg.grown.block g (by have := u.size; omega) (fun e => ?_)).trans (u.block g q0)
    rcases o.owns.2 with ⟨hv, _⟩ | ⟨g', cap, cur', hv, _, hgg, _⟩
    · simp only [Value.slice.injEq] at hv
      rw [hv.1] at e
      cases e
    · simp only [Value.slice.injEq] at hv
      rw [hv.1] at e
      cases e
      rw [hgg] at q1
      injection Option.some.inj q1 with _ q3
      rcases q2 with q2 | q2 <;> rw [q2] at q3 <;> exact absurd q3 (by decide)
theorem OwnI.takeK {w : World} {sp : Option Addr} {c : Nat} {l : List Int} (h : OwnI base w sp c l) (m : Nat) (hm : m ≤ l.length) : OwnI base w sp c (l.take m) := by
  have hl : (l.take m).length = m := by rw [List.length_take]; omega
  refine ⟨?_, fun n hn => h.bd n (List.mem_of_mem_take hn)⟩
  rw [hl]
  refine ⟨by rw [List.length_map, hl]; omega, ?_⟩
  rcases h.owns.2 with ⟨hv, h0⟩ | ⟨g, cap, cur, hv, hb, hg, hle, hmx, hsz, ht⟩
  · simp only [Value.slice.injEq] at hv
    obtain ⟨rfl, _, rfl⟩ := hv
    exact .inl ⟨by rw [show m = 0 by omega], by omega⟩
  · simp only [Value.slice.injEq] at hv
    obtain ⟨rfl, _, rfl⟩ := hv
    refine .inr ⟨g, c, cur, rfl, hb, hg, by omega, hmx, hsz, ?_⟩
    rw [List.map_take, ← ht, List.take_take]
    congr 1
    omega
theorem Ow.cut (h : Ow base w0 wr L d M sp k vs ts x lp lk kk us) (m : Nat) (hm : m ≤ vs.length) : Ow base w0 wr L d M sp k (vs.take m) ts x lp lk kk us := by
  obtain ⟨⟨Av, N, ss, r1, r2, ep, ec, hs, z, ls, h1, h2, o, r⟩, hb⟩ := h
  refine ⟨⟨Av, N, ss, r1, r2, ep, ec, hs, z, ls, h1, h2, ?_, r⟩, hb⟩
  rw [List.map_take]
  exact o.takeK m (by rw [List.length_map]; exact hm)
theorem Ow.ints (h : Ow base w0 wr L d M sp k vs ts x lp lk kk us) : OwnI base wr sp k (vs.map Int.ofNat) := by
  obtain ⟨Av, N, ss, r1, r2, ep, ec, hs, z, ls, h1, h2, o, r⟩ := h.ex
  exact o
theorem Ow.later (h : Ow base w0 wr L d M sp k vs ts x lp lk kk us) (u : Below wr.heap.size wr W1) : Ow base w0 W1 L d M sp k vs ts x lp lk kk us := by
  obtain ⟨⟨Av, N, ss, r1, r2, ep, ec, hs, z, ls, h1, h2, o, ha, hs2, o2, r⟩, hb⟩ := h
  exact ⟨⟨Av, N, ss, r1, r2, ep, ec, hs, z.later u, ls, h1, h2, o.later u, ha, hs2, o2.later u, r⟩, hb.trans (u.mono z.dk.le |>.mono (Nat.le_refl _))⟩
end
/-- What the terms are behind it. -/
def owL (kk : Nat) (ts us : List Nat) : List Nat := if us = [] then ts else ts.take kk ++ us
theorem ow_any {ss : Ds} {ts us : List Nat} {r1 r2 : List (List Nat)} (h : LS 262144 ss (cW ts) 1 r1 r2) {k : Nat} (hk : k ≤ ts.length) (hu : ∀ u ∈ us, 1 ≤ u ∧ u ≤ 256) (hl : k + us.length ≤ 1000) (hs : (cat (r1 ++ r2)).length + 40 * us.length ≤ 262144) :
    ∃ ss', wAppend 262144 1 (cW ts) ((nops k us).map toI) ss = (0, ss', cW (owL k ts us), 1) := by
  unfold owL
  by_cases h0 : us = []
  · subst h0
    exact ⟨ss, rfl⟩
  · rw [if_neg h0]
    obtain ⟨ss', e, _⟩ := ow_step h hk h0 hu hl (by omega)
    exact ⟨ss', e⟩
theorem elemI : Tryz.prog.underlying 32 = some (.slice (Tryz.prog.elem 32)) := by kernel_rfl
theorem sizeOfI (u : World) : (sizeOf (Tryz.prog.elem 32)).run Tryz.prog u = .ok 1 u := by kernel_rfl
theorem run_slice_hI (a : Option Addr) (len cap hi : Nat) (ha : ∀ ad, a = some ad → ∃ g, ad = ⟨g, 0, none⟩) (h2 : hi ≤ cap) (u : World) :
    (Instr.slice 32 (.slice a len cap) none (some (.int .i64 (hi : Int))) none).run Tryz.prog u = .ok (.slice a hi cap) u := by
  rw [run_slice_h (w := u) 32 a len cap elemI .i64 (hi : Int) (by omega) (by omega), sizeOfI]
  have hz := slp_zero a cap ha
  unfold slp at hz
  simp [Result.andThen, sliced]
  simpa using hz
theorem OwnI.root {base : Nat} {w : World} {sp : Option Addr} {c : Nat} {l : List Int} (h : OwnI base w sp c l) : ∀ ad, sp = some ad → ∃ g, ad = ⟨g, 0, none⟩ := by
  rcases h.owns.2 with ⟨hv, h0⟩ | ⟨g, cap, cur, hv, _⟩
  · simp only [Value.slice.injEq] at hv
    intro ad e
    rw [hv.1] at e
    cases e
  · simp only [Value.slice.injEq] at hv
    intro ad e
    rw [hv.1] at e
    exact ⟨g, (Option.some.inj e).symm⟩
theorem term_cW (ts : List Nat) (i : Nat) (hi : i < ts.length) : termW (cW ts) ((i : Int) + 1) = (((ts.getD i 0 : Nat) : Int), true) := by
  unfold termW
  have h1 : (cW ts).es.length = ts.length := nops_len 0 ts
  rw [if_neg (by simp only [cW]; omega), if_pos (by rw [h1]; simp only [cW]; omega)]
  have h2 : (((i : Int) + 1) - ((cW ts).bi : Int) - 1).toNat = i := by simp only [cW]; omega
  rw [h2, List.getD_eq_getElem?_getD, List.getElem?_eq_getElem (by rw [h1]; exact hi), Option.getD_some, List.getD_eq_getElem?_getD, List.getElem?_eq_getElem hi]
  have e : (cW ts).es[i]'(by rw [h1]; exact hi) = (1, ts[i], 0 + i + 1, []) := nops_at 0 ts i (by rw [nops_len]; exact hi)
  rw [e]
  rfl
theorem cW_ix (ts : List Nat) : Ix (cW ts) := fun j hj => by
  have e : (cW ts).es[j] = (1, ts[j]'(by rw [← nops_len 0 ts]; exact hj), 0 + j + 1, []) := nops_at 0 ts j hj
  rw [e]
  simp only [cW]
  omega
theorem term_cW_no (ts : List Nat) : termW (cW ts) ((ts.length : Int) + 1) = (0, false) := by
  unfold termW
  have h1 : (cW ts).es.length = ts.length := nops_len 0 ts
  rw [if_neg (by simp only [cW]; omega), if_neg (by rw [h1]; simp only [cW]; omega)]
theorem wpList_appendL2 {w : World} {ops : Array Oper} {rest : List Oper} {o : Oper} {a : Act} {Q : Exit → Act → World → Prop} (hgd : o.guard = none) (s x : Operand)
    (ho : o.op = .call { callee := .builtin .append, args := #[s, x], argTypes := #[27, 27] })
    (base : Nat) (sp : Option Addr) (n c : Nat) (es : List EntN) (hs : List (Option Addr × Nat)) (hsv : a.eval s = .slice sp n c) (hn : es.length = n) (hown : OwnL base w sp c es hs) (B : Nat) (e : EntN) (h : Option Addr × Nat) (hx : a.eval x = .slice (some ⟨B, 0, none⟩) 1 1)
    (hB : w.heap[B]? = some (.cells (entRow e h).toArray 60 (0, 0))) (hd : Bx base w h.1 h.2 e.2.2.2) (hlen : es.length ≤ 1048576) (hbase : base ≤ w.heap.size)
    (hk : ∀ sp' c' w', OwnL base w' sp' c' (es ++ [e]) (hs ++ [h]) → w.grownBy w' (blk sp) → (∀ g, blk sp' = some g → blk sp = some g ∨ w.heap.size ≤ g) → wpList Tryz.prog ops Q rest (a.put o.dst (.slice sp' (n + 1) c')) w') :
    wpList Tryz.prog ops Q (o :: rest) a w := by
  subst hn
  refine wpList_plain hgd fun K hK => ?_
  obtain ⟨sp', c', w', hrun, h1, h2, h3⟩ := run_appendL (w := w) hown B e h hB hd hlen hbase o.type
  unfold Oper.wp
  simp [execOp, ho, resolve, invoke, builtin, hsv, hx, hrun, Result.andThen]
  exact hK _ _ (hk sp' c' w' h1 h2 h3)
theorem adds_is (l : List Nat) (j : Nat) (hj : j < l.length) : ((l.take (j + 1)).map (· + 1)) = (l.take j).map (· + 1) ++ [l.getD j 0 + 1] := by
  rw [List.take_succ_eq_append_getElem hj, List.map_append, List.getD_eq_getElem?_getD, List.getElem?_eq_getElem hj]
  rfl
end Go.Proofs.YtijcpmbfhfppmaaGreatDoor
end
/- Entries of any kind held against each other: it ends, and equal ones are the same. -/
section
namespace Go.Proofs.YtijcpmbfhfppmaaGreatDoor
open Go.ChangeShapes Go.WideShapes Go.ChangeAt Go.RowKit
set_option linter.unusedVariables false

/-- It ends with a truth value that is true where p holds. -/
def AnyEnd (p : Prop) (w : World) (e : Ending) (w' : World) : Prop := ∃ x : Bool, e = .returned (.bool x) ∧ (p → x = true) ∧ Below w.heap.size w w'
set_option maxHeartbeats 4000000 in
theorem sameEntry_any (k t i k' t' i' : Int) (a a' : Option Addr) (n n' c c' : Nat) (l l' : List Nat) (w : World) (hn : l.length = n) (hn' : l'.length = n') (hb : BytesAt w a l) (hb' : BytesAt w a' l') :
    Calls Tryz.prog 59 #[entVal k t i a n c, entVal k' t' i' a' n' c'] w (AnyEnd ((k, t, i, l) = (k', t', i', l')) w) := by
  by_cases hall : k = k' ∧ t = t' ∧ i = i' ∧ l = l'
  · obtain ⟨rfl, rfl, rfl, rfl⟩ := hall
    refine (sameEntry_yes k t i a a' n n' c c' l w hn hn' hb hb').mono ?_
    rintro e w' ⟨rfl, h⟩
    exact ⟨true, rfl, fun _ => rfl, h⟩
  · have NO := hide (show ¬ ((k, t, i, l) = (k', t', i', l')) from fun h => by
      simp only [Prod.mk.injEq] at h
      exact hall h)
    clear hall
    have x0 := heap_old (entB k' t' i' a' n' c') (heap_new w (entB k t i a n c))
    have x1 := heap_new (w.alloc (entB k t i a n c)) (entB k' t' i' a' n' c')
    rw [size_alloc] at x1
    obtain ⟨c0, c1, c2, c3⟩ := entB_cells x0
    obtain ⟨d0, d1, d2, d3⟩ := entB_cells x1
    have bA : Below w.heap.size w ((w.alloc (entB k t i a n c)).alloc (entB k' t' i' a' n' c')) := ((Below.refl _ _).alloc (Nat.le_refl _) _).alloc (by rw [size_alloc]; omega) _
    have s1 := run_string8 (c := c) n hn (hb.later bA)
    have s2 := run_string8 (c := c') n' hn' (hb'.later bA)
    generalize strOf l = q1 at *
    generalize strOf l' = q2 at *
    have BA := hide bA
    have FE := hide (show ∀ x : Bool, AnyEnd ((k, t, i, l) = (k', t', i', l')) w (.returned (.bool x)) ((w.alloc (entB k t i a n c)).alloc (entB k' t' i' a' n' c')) from fun x => ⟨x, rfl, fun h => absurd h (unhide NO), bA⟩)
    clear x0 x1 bA hb hb' hn hn' NO
    by_cases h1 : k = k'
    · subst h1
      by_cases h2 : t = t'
      · subst h2
        by_cases h3 : i = i'
        · subst h3
          cases h4 : (q1.toList == q2.toList) with
          | true =>
            go_enter Tryz.func59, Tryz.ntmps59
            go_wp2
            go_ret
            exact unhide FE _
          | false =>
            go_enter Tryz.func59, Tryz.ntmps59
            go_wp2
            go_ret
            exact unhide FE _
        · have h3' : (i == i') = false := by simp [h3]
          go_enter Tryz.func59, Tryz.ntmps59
          go_wp2
          go_ret
          exact unhide FE _
      · have h2' : (t == t') = false := by simp [h2]
        go_enter Tryz.func59, Tryz.ntmps59
        go_wp2
        go_ret
        exact unhide FE _
    · have h1' : (k == k') = false := by simp [h1]
      go_enter Tryz.func59, Tryz.ntmps59
      go_wp2
      go_ret
      exact unhide FE _
set_option maxRecDepth 20000 in
set_option maxHeartbeats 4000000 in
theorem sameEntries_any (a a' : Option Addr) (n n' c c' : Nat) (es es' : List EntI) (w : World) (hn : es.length = n) (hn' : es'.length = n') (hlen : n ≤ 9223372036854775807) (hlen' : n' ≤ 9223372036854775807) (hb : EntsAt w a es) (hb' : EntsAt w a' es') :
    Calls Tryz.prog 21 #[.slice a n c, .slice a' n' c'] w (AnyEnd (es = es') w) := by
  have HB := hide hb
  have HB' := hide hb'
  have HN := hide hn
  have HN' := hide hn'
  clear hb hb' hn hn'
  have FE := hide (show ∀ (x : Bool) W, (es = es' → x = true) → Below w.heap.size w W → AnyEnd (es = es') w (.returned (.bool x)) W from fun x W h u => ⟨x, rfl, h, u⟩)
  by_cases hnn : n = n'
  · subst hnn
    go_enter Tryz.func21, Tryz.ntmps21
    go_wp2_with fail
    go_loopw [5] (fun i wr => ∃ j : Nat, j ≤ n ∧ i = .int .i64 (j : Int) ∧ Hid (Below w.heap.size w wr)) (fun i _ => n - (intOf i).toNat)
    case atStart => exact ⟨0, by omega, rfl, Below.refl _ _⟩
    case round =>
      obtain ⟨j, hj, rfl, F⟩ := hrel
      by_cases hjn : j < n
      · have hje : j < es.length := by have := unhide HN; omega
        have hje' : j < es'.length := by have := unhide HN'; omega
        obtain ⟨b, off, dp, dc, rfl, p0, p1, p2, p3, p4, _⟩ := ((unhide HB).later (unhide F)).cell j hje
        obtain ⟨b', off', dp', dc', rfl, q0, q1, q2, q3, q4, _⟩ := ((unhide HB').later (unhide F)).cell j hje'
        have EQ := hide (show es = es' → es[j] = es'[j] from fun h => by subst h; rfl)
        generalize es[j] = e at *
        generalize es'[j] = e' at *
        obtain ⟨k, t, i, d⟩ := e
        obtain ⟨k', t', i', d'⟩ := e'
        have P4 := hide p4
        have Q4 := hide q4
        have hj0 : (0 : Int) ≤ (j : Int) := by omega
        have hj1 : (j : Int) < (n : Int) := by omega
        clear p4 q4
        simp only at p0 p1 p2 p3 q0 q1 q2 q3
        go_wp2_with fail
        go_region_held3 (fun w' => w'.cell? ⟨b, off + j * 4, none⟩ = some (.int .i64 k) ∧ w'.cell? ⟨b, off + j * 4 + 1, none⟩ = some (.int .i64 t) ∧ w'.cell? ⟨b, off + j * 4 + 2, none⟩ = some (.int .i64 i) ∧ w'.cell? ⟨b, off + j * 4 + 3, none⟩ = some (.slice dp d.length dc) ∧
            w'.cell? ⟨b', off' + j * 4, none⟩ = some (.int .i64 k') ∧ w'.cell? ⟨b', off' + j * 4 + 1, none⟩ = some (.int .i64 t') ∧ w'.cell? ⟨b', off' + j * 4 + 2, none⟩ = some (.int .i64 i') ∧ w'.cell? ⟨b', off' + j * 4 + 3, none⟩ = some (.slice dp' d'.length dc'))
          (first
            | exact ⟨p0, p1, p2, p3, q0, q1, q2, q3⟩
            | exact ⟨cell_later hb1 p0, cell_later hb1 p1, cell_later hb1 p2, cell_later hb1 p3, cell_later hb1 q0, cell_later hb1 q1, cell_later hb1 q2, cell_later hb1 q3⟩)
          (first
            | (go_at_call 59; refine (sameEntry_any k t i k' t' i' dp dp' d.length d'.length dc dc' d d' _ rfl rfl (by exact (unhide P4).drew) (by exact (unhide Q4).drew)).mono ?_; rintro e W1 ⟨x1, rfl, hx1, hb1⟩))
        have F1 := hide ((unhide F).drew.trans (hb1.mono (unhide F).size))
        have X1 := hide hx1
        clear hb1 hx1
        cases x1 with
        | true =>
          go_wp2
          exact ⟨⟨j + 1, by omega, by go_num, unhide F1⟩, by simp [intOf]; omega⟩
        | false =>
          have FF := hide (unhide FE false W1 (fun h => unhide X1 (unhide EQ h)) (unhide F1))
          go_wp2
          go_ret
          exact unhide FF
      · have FF := hide (unhide FE true wr (fun _ => rfl) (unhide F))
        go_wp2
        go_ret
        exact unhide FF
  · have h1 : ((n : Int) == (n' : Int)) = false := by simp; omega
    have h2 : ¬ (n : Int) = (n' : Int) := by omega
    have FF := hide (unhide FE false w (fun h => absurd (show n = n' by rw [← unhide HN, ← unhide HN', h]) hnn) (Below.refl _ _))
    clear hnn
    go_enter Tryz.func21, Tryz.ntmps21
    go_wp2
    go_ret
    exact unhide FF
end Go.Proofs.YtijcpmbfhfppmaaGreatDoor
end
/- Logs: what a log tells of itself (state); states held against each other. -/
section
namespace Go.Proofs.YtijcpmbfhfppmaaGreatDoor
open Go.ChangeShapes Go.WideShapes Go.ChangeAt Go.RowKit
set_option linter.unusedVariables false

def stRow (c : Wc) (sp : Option Addr) (k : Nat) : Array Value := #[.int .i64 (c.bi : Int), .int .i64 (c.bt : Int), .int .i64 (c.ht : Int), .int .i64 (c.hv : Int), .slice sp c.es.length k]
/-- How state ends: what the log is, in new memory. -/
def StEnd (w : World) (c : Wc) (e : Ending) (w' : World) : Prop := ∃ sp k hs, e = .returned (.agg (stRow c sp k)) ∧ OwnL w.heap.size w' sp k c.es hs ∧ Below w.heap.size w w'
section
variable {Av : Nat → Prop} {base : Nat} {w w' : World} {L d M room N N' : Nat} {ss ss' : Ds} {c : Wc} {n : Nat} {ep : Option Addr} {ec : Nat} {hs : List (Option Addr × Nat)}
set_option maxRecDepth 20000 in
set_option maxHeartbeats 8000000 in
theorem state_calls (z : WAt Av base w L d M room N ss c n ep ec hs) (hi : Ix c) : Calls Tryz.prog 26 #[.pointer (some ⟨L, 0, none⟩)] w (StEnd w c) := by
  have U0 := hide ((Below.refl w.heap.size w).alloc (Nat.le_refl _) (.cells #[.int .i64 0, .int .i64 0, .int .i64 0, .int .i64 0, .slice none 0 0] 53))
  have X0 := hide (heap_new w (.cells #[.int .i64 0, .int .i64 0, .int .i64 0, .int .i64 0, .slice none 0 0] 53))
  have S0 := hide (show (w.alloc (.cells #[.int .i64 0, .int .i64 0, .int .i64 0, .int .i64 0, .slice none 0 0] 53)).heap.size = w.heap.size + 1 by simp)
  have BC := hide (fun W (u : Below w.heap.size w W) => wbase_calls (z.later u))
  have HC := hide (fun W (u : Below w.heap.size w W) => whard_calls (z.later u))
  have LC := hide (fun W (u : Below w.heap.size w W) => wlast_calls (z.later u))
  have EC := hide (fun W (u : Below w.heap.size w W) => entries_calls (z.later u) 0 ((c.bi + c.es.length : Nat) : Int))
  rw [fromTo_all hi (by omega) (Int.le_refl _)] at EC
  have SR := hide (show ∀ sp k, stRow c sp k = #[.int .i64 (c.bi : Int), .int .i64 (c.bt : Int), .int .i64 (c.ht : Int), .int .i64 (c.hv : Int), .slice sp c.es.length k] from fun _ _ => rfl)
  have EL := hide (show c.es.length = c.es.length from rfl)
  clear z hi
  generalize ((c.bi + c.es.length : Nat) : Int) = la at *
  go_enter Tryz.func26, Tryz.ntmps26
  go_wp2_with fail
  generalize w.alloc _ = W0 at *
  go_at_call 41
  refine (unhide BC _ (unhide U0)).mono ?_
  rintro e V1 ⟨rfl, v1⟩
  have U1 := hide ((unhide U0).trans (v1.mono (unhide U0).size))
  have C1 := hide v1
  clear v1
  go_wp2_with fail
  go_at_call 40
  refine (unhide HC _ (unhide U1)).mono ?_
  rintro e V2 ⟨rfl, v2⟩
  have U2 := hide ((unhide U1).trans (v2.mono (unhide U1).size))
  have C2 := hide ((unhide C1).trans (v2.mono (unhide C1).size))
  clear v2
  go_wp2_with fail
  go_at_call 39
  refine (unhide LC _ (unhide U2)).mono ?_
  rintro e V3 ⟨rfl, v3⟩
  have U3 := hide ((unhide U2).trans (v3.mono (unhide U2).size))
  have C3 := hide ((unhide C2).trans (v3.mono (unhide C2).size))
  clear v3
  go_wp2_with fail
  go_at_call 22
  refine (unhide EC _ (unhide U3)).mono ?_
  rintro e V4 ⟨sp, m, k, hs2, rfl, hm, o4, v4⟩
  subst hm
  have U4 := hide ((unhide U3).trans (v4.mono (unhide U3).size))
  have C4 := hide ((unhide C3).trans (v4.mono (unhide C3).size))
  have X4 := hide (later_block (unhide C4) (unhide X0))
  have x0 := box_cell (unhide X4) 0 _ rfl
  have x1 := box_cell (unhide X4) 1 _ rfl
  have x2 := box_cell (unhide X4) 2 _ rfl
  have x3 := box_cell (unhide X4) 3 _ rfl
  have x4 := box_cell (unhide X4) 4 _ rfl
  have f0 := froz_of (unhide X4) 0
  have f1 := froz_of (unhide X4) 1
  have f2 := froz_of (unhide X4) 2
  have f3 := froz_of (unhide X4) 3
  have f4 := froz_of (unhide X4) 4
  have O4 := hide (o4.mono (base' := w.heap.size) (unhide U3).size)
  have OE := hide (show ∀ g, LFoot sp hs2 g → g ≠ w.heap.size from fun g hg e => by
    have h1 := (o4.foot g hg).1
    have h2 := (unhide C3).size
    have h3 := unhide S0
    omega)
  clear o4 v4
  have ha := heap_setCell_same V4 w.heap.size 0 _ _ (.int .i64 (c.bi : Int)) (unhide X4)
  have hb := heap_setCell_same _ w.heap.size 1 _ _ (.int .i64 (c.bt : Int)) ha
  have hc := heap_setCell_same _ w.heap.size 2 _ _ (.int .i64 (c.ht : Int)) hb
  have hd := heap_setCell_same _ w.heap.size 3 _ _ (.int .i64 (c.hv : Int)) hc
  have he := heap_setCell_same _ w.heap.size 4 _ _ (.slice sp c.es.length k) hd
  have G5 := hide (((((grown_set V4 w.heap.size 0 (.int .i64 (c.bi : Int))).trans (grown_set _ w.heap.size 1 (.int .i64 (c.bt : Int)))).trans (grown_set _ w.heap.size 2 (.int .i64 (c.ht : Int)))).trans (grown_set _ w.heap.size 3 (.int .i64 (c.hv : Int)))).trans (grown_set _ w.heap.size 4 (.slice sp c.es.length k)))
  have X5 := hide he
  clear ha hb hc hd he
  have FE := hide (show ∀ W, V4.grownBy W (some w.heap.size) → StEnd w c (.returned (.agg #[.int .i64 (c.bi : Int), .int .i64 (c.bt : Int), .int .i64 (c.ht : Int), .int .i64 (c.hv : Int), .slice sp c.es.length k])) W from fun W hg => ⟨sp, k, hs2, rfl, (unhide O4).same (fun g hgf => hg.block g ((unhide O4).foot g hgf).2.1 (fun e => unhide OE g hgf (Option.some.inj e))), (unhide U4).grown hg (unhide U4).size (fun j e => by have := Option.some.inj e; omega)⟩)
  go_wp2
  clear x0 x1 x2 x3 x4 f0 f1 f2 f3 f4
  generalize ((((V4.setCell _ _).setCell _ _).setCell _ _).setCell _ _).setCell _ _ = W5 at *
  have y0 : W5.cell? ⟨w.heap.size, 0, none⟩ = some (.int .i64 (c.bi : Int)) := box_cell (unhide X5) 0 _ rfl
  have y1 : W5.cell? ⟨w.heap.size, 1, none⟩ = some (.int .i64 (c.bt : Int)) := box_cell (unhide X5) 1 _ rfl
  have y2 : W5.cell? ⟨w.heap.size, 2, none⟩ = some (.int .i64 (c.ht : Int)) := box_cell (unhide X5) 2 _ rfl
  have y3 : W5.cell? ⟨w.heap.size, 3, none⟩ = some (.int .i64 (c.hv : Int)) := box_cell (unhide X5) 3 _ rfl
  have y4 : W5.cell? ⟨w.heap.size, 4, none⟩ = some (.slice sp c.es.length k) := box_cell (unhide X5) 4 _ rfl
  refine bodyPost_ret (v := .agg #[.int .i64 (c.bi : Int), .int .i64 (c.bt : Int), .int .i64 (c.ht : Int), .int .i64 (c.hv : Int), .slice sp c.es.length k]) (by simp [results, Tryz.results26, go_sem, y0, y1, y2, y3, y4]) rfl (unhide FE W5 (unhide G5))
end
/-- States held against each other: it ends, and equal ones are the same. -/
def stEq (a b : Wc) : Prop := a = b
set_option maxRecDepth 20000 in
set_option maxHeartbeats 8000000 in
theorem sameState_any {a b : Wc} {sp sp' : Option Addr} {k k' : Nat} (w : World) (ha : EntsAt w sp (a.es.map toI)) (hb : EntsAt w sp' (b.es.map toI)) (la : a.es.length ≤ 9223372036854775807) (lb : b.es.length ≤ 9223372036854775807) :
    Calls Tryz.prog 33 #[.agg (stRow a sp k), .agg (stRow b sp' k')] w (AnyEnd (a = b) w) := by
  unfold stRow
  have U0 := (Below.refl w.heap.size w).alloc (Nat.le_refl _) (.cells #[.int .i64 (a.bi : Int), .int .i64 (a.bt : Int), .int .i64 (a.ht : Int), .int .i64 (a.hv : Int), .slice sp a.es.length k] 53)
  have S0 : (w.alloc (.cells #[.int .i64 (a.bi : Int), .int .i64 (a.bt : Int), .int .i64 (a.ht : Int), .int .i64 (a.hv : Int), .slice sp a.es.length k] 53)).heap.size = w.heap.size + 1 := by simp
  have X0 := heap_new w (.cells #[.int .i64 (a.bi : Int), .int .i64 (a.bt : Int), .int .i64 (a.ht : Int), .int .i64 (a.hv : Int), .slice sp a.es.length k] 53)
  have X1 := heap_new (w.alloc (.cells #[.int .i64 (a.bi : Int), .int .i64 (a.bt : Int), .int .i64 (a.ht : Int), .int .i64 (a.hv : Int), .slice sp a.es.length k] 53)) (.cells #[.int .i64 (b.bi : Int), .int .i64 (b.bt : Int), .int .i64 (b.ht : Int), .int .i64 (b.hv : Int), .slice sp' b.es.length k'] 53)
  have X0 := later_block ((Below.refl (w.alloc (.cells #[.int .i64 (a.bi : Int), .int .i64 (a.bt : Int), .int .i64 (a.ht : Int), .int .i64 (a.hv : Int), .slice sp a.es.length k] 53)).heap.size _).alloc (Nat.le_refl _) (.cells #[.int .i64 (b.bi : Int), .int .i64 (b.bt : Int), .int .i64 (b.ht : Int), .int .i64 (b.hv : Int), .slice sp' b.es.length k'] 53)) X0
  rw [S0] at X1
  have U1 := U0.alloc (o := .cells #[.int .i64 (b.bi : Int), .int .i64 (b.bt : Int), .int .i64 (b.ht : Int), .int .i64 (b.hv : Int), .slice sp' b.es.length k'] 53) (by rw [S0]; omega)
  have BA := hide U1
  have HA := hide (ha.later U1)
  have HB := hide (hb.later U1)
  have c0 := box_cell X0 0 _ rfl
  have c1 := box_cell X0 1 _ rfl
  have c2 := box_cell X0 2 _ rfl
  have c3 := box_cell X0 3 _ rfl
  have c4 := box_cell X0 4 _ rfl
  have d0 := box_cell X1 0 _ rfl
  have d1 := box_cell X1 1 _ rfl
  have d2 := box_cell X1 2 _ rfl
  have d3 := box_cell X1 3 _ rfl
  have d4 := box_cell X1 4 _ rfl
  have FE := hide (show ∀ (x : Bool) W, (a = b → x = true) → Below w.heap.size w W → AnyEnd (a = b) w (.returned (.bool x)) W from fun x W h u => ⟨x, rfl, h, u⟩)
  clear X0 X1 U0 U1 S0 ha hb
  have EC := hide (fun W (u : Below ((w.alloc (.cells #[.int .i64 (a.bi : Int), .int .i64 (a.bt : Int), .int .i64 (a.ht : Int), .int .i64 (a.hv : Int), .slice sp a.es.length k] 53)).alloc (.cells #[.int .i64 (b.bi : Int), .int .i64 (b.bt : Int), .int .i64 (b.ht : Int), .int .i64 (b.hv : Int), .slice sp' b.es.length k'] 53)).heap.size ((w.alloc (.cells #[.int .i64 (a.bi : Int), .int .i64 (a.bt : Int), .int .i64 (a.ht : Int), .int .i64 (a.hv : Int), .slice sp a.es.length k] 53)).alloc (.cells #[.int .i64 (b.bi : Int), .int .i64 (b.bt : Int), .int .i64 (b.ht : Int), .int .i64 (b.hv : Int), .slice sp' b.es.length k'] 53)) W) => sameEntries_any sp sp' a.es.length b.es.length k k' (a.es.map toI) (b.es.map toI) W (by rw [List.length_map]) (by rw [List.length_map]) la lb ((unhide HA).later u) ((unhide HB).later u))
  have NE : ∀ x : Nat, ∀ y : Nat, x = y ∨ (((x : Int) == (y : Int)) = false ∧ ¬ (x : Int) = (y : Int)) := fun x y => by
    by_cases h : x = y
    · exact .inl h
    · exact .inr ⟨by simp; omega, by omega⟩
  obtain ⟨ai, at_, ah, av, aes⟩ := a
  obtain ⟨bi, bt, bh, bv, bes⟩ := b
  dsimp only at *
  rcases NE ai bi with rfl | ⟨q1, q2⟩
  · rcases NE at_ bt with rfl | ⟨q1, q2⟩
    · rcases NE ah bh with rfl | ⟨q1, q2⟩
      · rcases NE av bv with rfl | ⟨q1, q2⟩
        · clear NE
          go_enter Tryz.func33, Tryz.ntmps33
          go_wp2_with fail
          generalize (w.alloc _).alloc _ = W0 at *
          go_at_call 21
          refine (unhide EC W0 (Below.refl _ _)).mono ?_
          rintro e V ⟨x, rfl, hx, v⟩
          have FF := hide (unhide FE x V (fun h => hx (by injection h with _ _ _ _ h5; rw [h5])) ((unhide BA).trans (v.mono (unhide BA).size)))
          clear v hx EC
          go_wp2
          go_ret
          exact unhide FF
        · have FF := hide (unhide FE false _ (fun h => absurd (by injection h with _ _ _ h4; rw [h4]) q2) (unhide BA))
          clear NE
          go_enter Tryz.func33, Tryz.ntmps33
          go_wp2
          go_ret
          exact unhide FF
      · have FF := hide (unhide FE false _ (fun h => absurd (by injection h with _ _ h4; rw [h4]) q2) (unhide BA))
        clear NE
        go_enter Tryz.func33, Tryz.ntmps33
        go_wp2
        go_ret
        exact unhide FF
    · have FF := hide (unhide FE false _ (fun h => absurd (by injection h with _ h4; rw [h4]) q2) (unhide BA))
      clear NE
      go_enter Tryz.func33, Tryz.ntmps33
      go_wp2
      go_ret
      exact unhide FF
  · have FF := hide (unhide FE false _ (fun h => absurd (by injection h with h4; rw [h4]) q2) (unhide BA))
    clear NE
    go_enter Tryz.func33, Tryz.ntmps33
    go_wp2
    go_ret
    exact unhide FF
end Go.Proofs.YtijcpmbfhfppmaaGreatDoor
end
/- Logs: entries copied. -/
section
namespace Go.Proofs.YtijcpmbfhfppmaaGreatDoor
open Go.ChangeShapes Go.WideShapes Go.ChangeAt Go.RowKit
set_option linter.unusedVariables false

/-- append(T{}, l...). -/
theorem run_cloneH {w : World} (t ty e : TypeId) (i : TypeInfo) (z : Value) (size bytes : Nat) (ht : Tryz.prog.underlying t = some (.slice e)) (hi : Tryz.prog.info? e = some i) (hz : i.zero = some z) (hsize : i.size = size) (hby : i.bytes = bytes) (hzs : z.cells.size = size) (hsz : 0 < size)
    (E : Nat) (hE : w.heap[E]? = some (.cells #[] e (0, 0))) (ad : Option Addr) (m c : Nat) (hn : ad = none → m = 0 ∧ c = 0) (news : List Value) (hl : news.length = m * size)
    (hnews : ∀ b, ad = some b → ∀ j u, news[j]? = some u → w.cell? (b.add j) = some u) (h1 : ∀ u ∈ news, u.oneCell' = true) (hm : m ≤ 1000000) (hbytes : m * bytes ≤ 140737488355328) :
    ∃ g c' w', (Builtin.append_ #[t, t] ty #[.slice (some ⟨E, 0, none⟩) 0 0, .slice ad m c]).run Tryz.prog w = .ok (.slice (some ⟨g, 0, none⟩) m c') w' ∧ w'.ownsRow E e size (.slice (some ⟨g, 0, none⟩) m c') m news ∧ w.grownBy w' (some E) ∧ (g = E ∨ g = w.heap.size) := by
  have he : w.ownsRow E e size (.slice (some ⟨E, 0, none⟩) 0 0) 0 [] := ⟨by simp, .inr ⟨E, 0, #[], rfl, Nat.le_refl _, hE, Nat.le_refl _, by simp [maxLen], by simp, by simp⟩⟩
  have hEl : E < w.heap.size := (Array.getElem?_eq_some_iff.1 hE).1
  cases ad with
  | none =>
    obtain ⟨rfl, rfl⟩ := hn rfl
    have hz : news = [] := List.eq_nil_of_length_eq_zero (by simpa using hl)
    subst hz
    have hrun := run_append_owned_none (P := Tryz.prog) (w := w) E t ty e i size ht hi _ _ _ he
    exact ⟨E, 0, w, hrun, he, grown_refl _ _, .inl rfl⟩
  | some b =>
    obtain ⟨v', w', hrun, h2, h3, h4, h5⟩ := run_append_own_at (P := Tryz.prog) w E t ty e i z size bytes ht hi hz hsize hby hzs hsz _ _ _ he b m c news hl (hnews b rfl) h1 (by simp only [maxLen]; omega) (by rw [Nat.zero_add]; exact hbytes) (by omega)
    rcases h2.2 with ⟨hv, h0⟩ | ⟨g, cap, cur, hv, r⟩
    · have := (h4.1 hv).1
      cases this
    · subst hv
      rw [Nat.zero_add, List.nil_append] at h2
      exact ⟨g, cap, w', by rw [hrun, Nat.zero_add], h2, h3, h5.imp (fun e => Option.some.inj e) (fun e => Option.some.inj e)⟩
theorem eqNilE_some (ad : Addr) (n c : Nat) (w : World) : (binOp .eql 27 (.slice (some ad) n c) (.slice none 0 0)).run Tryz.prog w = .ok (.bool false) w := by kernel_rfl
theorem rowsV_drop : ∀ (es : List EntN) (hs : List (Option Addr × Nat)) (k : Nat), hs.length = es.length → rowsV (es.drop k) (hs.drop k) = (rowsV es hs).drop (k * 4)
  | es, hs, 0, _ => by simp
  | [], [], k + 1, _ => by simp [rowsV]
  | e :: es, h :: hs, k + 1, hl => by
    rw [List.drop_succ_cons, List.drop_succ_cons, rowsV_drop es hs k (by simpa using hl)]
    have hc : rowsV (e :: es) (h :: hs) = entRow e h ++ rowsV es hs := rfl
    rw [hc, show (k + 1) * 4 = 4 + k * 4 by omega, List.drop_append, List.drop_of_length_le (show (entRow e h).length ≤ 4 + k * 4 by show 4 ≤ 4 + k * 4; omega), List.nil_append, show 4 + k * 4 - (entRow e h).length = k * 4 from by show 4 + k * 4 - 4 = k * 4; omega]
  | [], _ :: _, _ + 1, h => by simp at h
  | _ :: _, [], _ + 1, h => by simp at h
theorem wpList_cloneE {w : World} {ops : Array Oper} {rest : List Oper} {o : Oper} {a : Act} {Q : Exit → Act → World → Prop} (hgd : o.guard = none) (s x : Operand)
    (ho : o.op = .call { callee := .builtin .append, args := #[s, x], argTypes := #[27, 27] })
    (E : Nat) (hs : a.eval s = .slice (some ⟨E, 0, none⟩) 0 0) (hE : w.heap[E]? = some (.cells #[] 60 (0, 0))) (b : Addr) (m c : Nat) (hx : a.eval x = .slice (some b) m c) (news : List Value) (hl : news.length = m * 4)
    (hnews : ∀ j u, news[j]? = some u → w.cell? (b.add j) = some u) (h1 : ∀ u ∈ news, u.oneCell' = true) (hm : m ≤ 1000000)
    (hk : ∀ g c' w', w'.ownsRow E 60 4 (.slice (some ⟨g, 0, none⟩) m c') m news → w.grownBy w' (some E) → (g = E ∨ g = w.heap.size) → wpList Tryz.prog ops Q rest (a.put o.dst (.slice (some ⟨g, 0, none⟩) m c')) w') :
    wpList Tryz.prog ops Q (o :: rest) a w := by
  refine wpList_plain hgd fun K hK => ?_
  obtain ⟨i0, hi, hz0, hz1, hz2⟩ := info_parts infoE
  obtain ⟨g, c', w', hrun, h2, h3, h4⟩ := run_cloneH (w := w) 27 o.type 60 i0 _ 4 48 Tryz.underlying27 hi hz0 hz1 hz2 rfl (by omega) E hE (some b) m c (fun h => by cases h) news hl (fun b' e => by cases e; exact hnews) h1 hm (by omega)
  unfold Oper.wp
  simp [execOp, ho, resolve, invoke, builtin, hs, hx, hrun, Result.andThen]
  exact hK _ _ (hk g c' w' h2 h3 h4)
theorem rowsV_one : ∀ (es : List EntN) (hs : List (Option Addr × Nat)), ∀ u ∈ rowsV es hs, u.oneCell' = true := by
  intro es hs u hu
  obtain ⟨p, _, hp⟩ := List.mem_flatMap.1 hu
  simp only [entRow, List.mem_cons, List.not_mem_nil, or_false] at hp
  rcases hp with rfl | rfl | rfl | rfl <;> rfl
set_option maxRecDepth 20000 in
set_option maxHeartbeats 8000000 in
theorem cloneE_calls {base b : Nat} {w : World} {ec : Nat} {es : List EntN} {hs : List (Option Addr × Nat)} (h : OwnL base w (some ⟨b, 0, none⟩) ec es hs) (k x m cc : Nat) (hk : k ≤ es.length) (hm : es.length - k = m) (hx : 0 < m → x = k * 4) (hl : es.length ≤ 1000000) (hbs : base ≤ w.heap.size) :
    Calls Tryz.prog 70 #[.slice (some ⟨b, x, none⟩) m cc] w fun e w' => ∃ g c', e = .returned (.slice (some ⟨g, 0, none⟩) m c') ∧ OwnL base w' (some ⟨g, 0, none⟩) c' (es.drop k) (hs.drop k) ∧ Below w.heap.size w w' ∧ w.heap.size ≤ g := by
  have hml : (es.drop k).length = m := by rw [List.length_drop]; exact hm
  have hhl : (hs.drop k).length = (es.drop k).length := by rw [List.length_drop, List.length_drop, h.len]
  have hnw : ∀ j u, (rowsV (es.drop k) (hs.drop k))[j]? = some u → w.cell? (Addr.add ⟨b, x, none⟩ j) = some u := by
    intro j u hu
    have hj : j < m * 4 := by
      have h1 := (List.getElem?_eq_some_iff.1 hu).1
      rw [rowsV_length _ _ hhl, hml] at h1
      exact h1
    rw [hx (by omega)]
    rw [rowsV_drop es hs k h.len, List.getElem?_drop] at hu
    rcases h.row.2 with ⟨hv, h0⟩ | ⟨g, cap, cur, hv, hb, hg, hle, hmx, hsz, ht⟩
    · simp at hv
    · simp only [Value.slice.injEq, Option.some.injEq, Addr.mk.injEq, and_true, true_and] at hv
      obtain ⟨rfl, _⟩ := hv
      rw [Addr.add_lit, cell_of_row w b _ cur _ _ hg, ← Array.getElem?_toList]
      rw [← ht, List.getElem?_take] at hu
      split at hu
      · exact hu
      · cases hu
  have hq := eqNilE_some ⟨b, x, none⟩ m cc w
  have U1 := hide (show Below w.heap.size w (w.alloc (.cells #[] 60)) from (Below.refl _ _).alloc (Nat.le_refl _) _)
  have X1 := hide (heap_new w (.cells #[] 60))
  have NW := hide (show ∀ j u, (rowsV (es.drop k) (hs.drop k))[j]? = some u → (w.alloc (.cells #[] 60)).cell? (Addr.add ⟨b, x, none⟩ j) = some u from fun j u hu => by
    have h1 := hnw j u hu
    rw [Addr.add_lit] at h1 ⊢
    exact cell_later (unhide U1) h1)
  have RL := hide (show (rowsV (es.drop k) (hs.drop k)).length = m * 4 by rw [rowsV_length _ _ hhl, hml])
  have FE := hide (show ∀ g c' W, World.ownsRow W w.heap.size 60 4 (.slice (some ⟨g, 0, none⟩) m c') m (rowsV (es.drop k) (hs.drop k)) → Below w.heap.size w W → (w.heap.size ≤ g) → OwnL base W (some ⟨g, 0, none⟩) c' (es.drop k) (hs.drop k) from fun g c' W hr u hg => by
    refine ⟨hhl, ?_, fun i hi hj => ?_⟩
    · rw [hml]
      refine ⟨hr.1, ?_⟩
      rcases hr.2 with q | ⟨g', cap, cur, hv, hb, r⟩
      · exact .inl q
      · exact .inr ⟨g', cap, cur, hv, Nat.le_trans hbs hb, r⟩
    · rw [List.getElem_drop, List.getElem_drop]
      exact (h.dat (k + i) (by rw [List.length_drop] at hi; omega) (by rw [List.length_drop] at hj; omega)).later u)
  have ML := hide (show m ≤ 1000000 by omega)
  clear h hnw hml hhl hx
  go_enter Tryz.func70, Tryz.ntmps70
  go_wp2_with (at_builtin; refine unhide ?_)
  refine hide ?_
  refine wpList_cloneE rfl (.tmp 5) (.tmp 6) rfl w.heap.size rfl (unhide X1) ⟨b, x, none⟩ m cc rfl (rowsV (es.drop k) (hs.drop k)) (unhide RL) (unhide NW) (rowsV_one _ _) (unhide ML) ?_
  intro g c' W hr hg hgg
  have B2 := hide ((unhide U1).grown hg (unhide U1).size (fun j e => by have := Option.some.inj e; omega))
  have hgl : w.heap.size ≤ g := by
    rcases hgg with rfl | rfl
    · exact Nat.le_refl _
    · exact (unhide U1).size
  have OO := hide (unhide FE g c' W hr (unhide B2) hgl)
  have GL := hide hgl
  clear hr hg hgg hgl
  go_wp2
  go_ret
  exact ⟨g, c', rfl, unhide OO, unhide B2, unhide GL⟩
end Go.Proofs.YtijcpmbfhfppmaaGreatDoor
end
/- Logs: Compact. -/
section
namespace Go.Proofs.YtijcpmbfhfppmaaGreatDoor
open Go.ChangeShapes Go.WideShapes Go.ChangeAt Go.RowKit
set_option linter.unusedVariables false

theorem run_slice_lE (b len cap lo : Nat) (h1 : lo ≤ len) (u : World) :
    (Instr.slice 27 (.slice (some ⟨b, 0, none⟩) len cap) (some (.int .i64 (lo : Int))) none none).run Tryz.prog u = .ok (.slice (some ⟨b, if cap = lo then 0 else lo * 4, none⟩) (len - lo) (cap - lo)) u := by
  rw [run_slice_l (w := u) 27 _ len cap elemE .i64 (lo : Int) (by omega) (by omega), sizeOfE]
  simp only [Result.andThen, sliced, Int.toNat_natCast, Option.map_some, Addr.add_lit]
  split <;> simp
/-- Compact: the error, the disk, the content, the file's number. -/
def wCompact (room n : Nat) (c : Wc) (i : Int) (ss : Ds) : Nat × Ds × Wc × Nat :=
  if (termW c i).2 = false then (2, ss, c, n)
  else if i = (c.bi : Int) then (0, ss, c, n)
  else wNew room n c ⟨i.toNat, (termW c i).1.toNat, c.ht, c.hv, c.es.drop (i.toNat - c.bi)⟩ ss
section
variable {Av : Nat → Prop} {base : Nat} {w w' : World} {L d M room N N' : Nat} {ss ss' : Ds} {c : Wc} {n : Nat} {ep : Option Addr} {ec : Nat} {hs : List (Option Addr × Nat)}
theorem OwnL.some_ {es : List EntN} (h : OwnL base w ep ec es hs) (h0 : 0 < es.length) : ∃ b, ep = some ⟨b, 0, none⟩ := by
  rcases h.row.2 with ⟨hv, h1⟩ | ⟨g, cap, cur, hv, _⟩
  · omega
  · simp only [Value.slice.injEq] at hv
    exact ⟨g, hv.1⟩
end
end Go.Proofs.YtijcpmbfhfppmaaGreatDoor
end
