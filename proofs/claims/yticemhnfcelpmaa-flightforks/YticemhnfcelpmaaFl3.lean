/- Flight: packets appended; what a store leaves of a net. -/
import Derived.Test.YticemhnfcelpmaaFl2
import Derived.Deep.RegionLaw
import Derived.Deep.RegionHeld3
namespace Go.Proofs.Yticemhnfcelpmaa
open Go.ChangeShapes Go.WideShapes Go.ChangeAt Go.RowKit Go.Maps

theorem step_appendP {w : World} {ops : Array Oper} {o : Oper} {a : Act} {K : Act → World → Prop} {Q : Exit → Act → World → Prop} {E : Prop} (hgd : o.guard = none) (s x : Operand)
    (ho : o.op = .call { callee := .builtin .append, args := #[s, x], argTypes := #[25, 25] })
    (base top : Nat) (sp : Option Addr) (n c : Nat) (xs : List (Pkt × Hdl)) (hs : a.eval s = .slice sp n c) (hn : xs.length = n) (hown : OwnP base top w sp c xs) (B : Nat) (e : Pkt × Hdl) (hx : a.eval x = .slice (some ⟨B, 0, none⟩) 1 1)
    (hB : w.heap[B]? = some (.cells (pkRow e).toArray 35 (0, 0))) (hd : OwnB base w e.2.1 e.2.2 e.1.2.2.2) (hlo : ∀ g, blk e.2.1 = some g → top ≤ g) (htt : top ≤ w.heap.size) (hlen : xs.length ≤ 1048576) (hbase : base ≤ w.heap.size)
    (hk : ∀ sp' c' w', OwnP base w.heap.size w' sp' c' (xs ++ [e]) → w.grownBy w' (blk sp) → (∀ g, blk sp' = some g → blk sp = some g ∨ w.heap.size ≤ g) → K (a.put o.dst (.slice sp' (n + 1) c')) w') :
    if Region.wanted o (yielded ops a.tmps) = true then Oper.wp Try.prog o a w K Q else E := by
  subst hn
  have hw : Region.wanted o (yielded ops a.tmps) = true := by simp [Region.wanted, hgd]
  rw [if_pos hw]
  obtain ⟨sp', c', w', hrun, h1, h2, h3⟩ := run_appendP (w := w) base top sp c xs hown B e hB hd hlo htt hlen hbase o.type
  unfold Oper.wp
  simp [execOp, ho, resolve, invoke, builtin, hs, hx, hrun, Result.andThen]
  exact hk sp' c' w' h1 h2 h3
theorem wpList_appendP {w : World} {ops : Array Oper} {rest : List Oper} {o : Oper} {a : Act} {Q : Exit → Act → World → Prop} (hgd : o.guard = none) (s x : Operand)
    (ho : o.op = .call { callee := .builtin .append, args := #[s, x], argTypes := #[25, 25] })
    (base top : Nat) (sp : Option Addr) (n c : Nat) (xs : List (Pkt × Hdl)) (hs : a.eval s = .slice sp n c) (hn : xs.length = n) (hown : OwnP base top w sp c xs) (B : Nat) (e : Pkt × Hdl) (hx : a.eval x = .slice (some ⟨B, 0, none⟩) 1 1)
    (hB : w.heap[B]? = some (.cells (pkRow e).toArray 35 (0, 0))) (hd : OwnB base w e.2.1 e.2.2 e.1.2.2.2) (hlo : ∀ g, blk e.2.1 = some g → top ≤ g) (htt : top ≤ w.heap.size) (hlen : xs.length ≤ 1048576) (hbase : base ≤ w.heap.size)
    (hk : ∀ sp' c' w', OwnP base w.heap.size w' sp' c' (xs ++ [e]) → w.grownBy w' (blk sp) → (∀ g, blk sp' = some g → blk sp = some g ∨ w.heap.size ≤ g) → wpList Try.prog ops Q rest (a.put o.dst (.slice sp' (n + 1) c')) w') :
    wpList Try.prog ops Q (o :: rest) a w := by
  subst hn
  refine wpList_plain hgd fun K hK => ?_
  obtain ⟨sp', c', w', hrun, h1, h2, h3⟩ := run_appendP (w := w) base top sp c xs hown B e hB hd hlo htt hlen hbase o.type
  unfold Oper.wp
  simp [execOp, ho, resolve, invoke, builtin, hs, hx, hrun, Result.andThen]
  exact hK _ _ (hk sp' c' w' h1 h2 h3)
section
variable {base : Nat} {w : World} {N M n : Nat} {sp : Option Addr} {c : Nat} {xs : List (Pkt × Hdl)} {last : Int} {S : Int → Int → Bool} {ck : List Int}
theorem BytesAt.grownNe {w w' : World} {a : Option Addr} {l : List Nat} {o : Option Nat} (h : BytesAt w a l) (hg : w.grownBy w' o) (hne : ∀ b off, 0 < l.length → a = some ⟨b, off, none⟩ → o ≠ some b) : BytesAt w' a l := by
  refine ⟨h.lt, fun i hi => ?_⟩
  obtain ⟨b, off, e1, e2⟩ := h.cell i hi
  refine ⟨b, off, e1, ?_⟩
  rw [World.cell?_of_block (w := w) (w' := w') (hg.block b (World.block_lt_of_cell? _ _ e2) (fun e => hne b off (by omega) e1 e.symm))]
  exact e2
theorem NetAt.ne (h : NetAt base w N M n sp c xs last S ck) : M ≠ N := by
  obtain ⟨D, h1, _⟩ := h.map
  intro e
  obtain ⟨es, clock, hb, _⟩ := h1
  rw [e, h.blk] at hb
  simp at hb
/-- The net's block changed in one cell. -/
theorem NetAt.setN (h : NetAt base w N M n sp c xs last S ck) (k : Nat) (v : Value) : (∃ D : DataW Unit, (w.setCell ⟨N, k, none⟩ v).ownsMap Try.prog 56 unitElem M n D ∧ ∀ f t, In64 f → In64 t → Maps.has D (lk f t) = S f t) ∧ OwnP base (w.setCell ⟨N, k, none⟩ v).heap.size (w.setCell ⟨N, k, none⟩ v) sp c xs := by
  have hg := grown_set w N k v
  obtain ⟨D, h1, h2⟩ := h.map
  have hNM : M ≠ N := by
    intro e
    obtain ⟨es, clock, hb, _⟩ := h1
    rw [e, h.blk] at hb
    simp at hb
  exact ⟨⟨D, h1.kept hg (fun e => hNM (Option.some.inj e)), h2⟩, (h.own.far hg h.blk (by decide) (by decide)).tight⟩
theorem NetAt.setLast (h : NetAt base w N M n sp c xs last S ck) (last' : Int) : NetAt base (w.setCell ⟨N, 1, none⟩ (.int .i64 last')) N M n sp c xs last' S ck := by
  obtain ⟨h1, h2⟩ := h.setN 1 (.int .i64 last')
  exact ⟨by simpa using heap_setCell_same w N 1 _ 53 (.int .i64 last') h.blk, h2, h1, h.lowN, h.lowM, h.nine⟩
theorem NetAt.setCk (h : NetAt base w N M n sp c xs last S ck) (k : Nat) (v : Int) : NetAt base (w.setCell ⟨N, 3 + k, none⟩ (.int .i64 v)) N M n sp c xs last S (ck.set k v) := by
  obtain ⟨h1, h2⟩ := h.setN (3 + k) (.int .i64 v)
  refine ⟨?_, h2, h1, h.lowN, h.lowM, by rw [List.length_set]; exact h.nine⟩
  have := heap_setCell_same w N (3 + k) _ 53 (.int .i64 v) h.blk
  rw [this, Nat.add_comm 3 k]
  simp [List.map_set]
/-- The packets changed, then the net's block. -/
theorem NetAt.setRow {w' : World} {sp' : Option Addr} {c' : Nat} {xs' : List (Pkt × Hdl)} {top : Nat} (h : NetAt base w N M n sp c xs last S ck) (hN : w'.heap[N]? = w.heap[N]?) (hM : w'.heap[M]? = w.heap[M]?) (ho : OwnP base top w' sp' c' xs') :
    NetAt base (w'.setCell ⟨N, 0, none⟩ (.slice sp' xs'.length c')) N M n sp' c' xs' last S ck := by
  have hb : w'.heap[N]? = _ := hN.trans h.blk
  have hgs := grown_set w' N 0 (.slice sp' xs'.length c')
  obtain ⟨D, h1, h2⟩ := h.map
  have hNM : M ≠ N := by
    intro e
    obtain ⟨es, clock, hb, _⟩ := h1
    rw [e, h.blk] at hb
    simp at hb
  have h1' : w'.ownsMap Try.prog 56 unitElem M n D := by
    obtain ⟨es, clock, hb, r⟩ := h1
    exact ⟨es, clock, hM.trans hb, r⟩
  exact ⟨by simpa using heap_setCell_same w' N 0 _ 53 (.slice sp' xs'.length c') hb, (ho.far hgs hb (by decide) (by decide)).tight, ⟨D, h1'.kept hgs (fun e => hNM (Option.some.inj e)), h2⟩, h.lowN, h.lowM, h.nine⟩
end
end Go.Proofs.Yticemhnfcelpmaa
