/- Rows of fields that grow beside one another. -/
import Derived.Test.YtmmiadlmdjfepaaDoorHh1
import Derived.Test.YtmmiadlmdjfepaaDoorHdq
import Derived.Test.YtmmiadlmdjfepaaDoorApp
import Derived.Test.YtmmiadlmdjfepaaDoorHdc
namespace Go.Proofs.YtmmiadlmdjfepaaDoor
open Go.ChangeShapes Go.WideShapes Go.ChangeAt Go.RowKit
set_option linter.unusedVariables false

theorem OwnFd.empty (w : World) (base : Nat) (hb : base ≤ w.heap.size) : OwnFd base (w.alloc (.cells #[] 43)) (some ⟨w.heap.size, 0, none⟩) 0 [] :=
  ⟨rfl, .inr ⟨w.heap.size, 0, #[], rfl, hb, heap_new _ _, Nat.le_refl _, by simp [maxLen], rfl, rfl⟩⟩
theorem OwnFd.blk_lt {base : Nat} {w : World} {sp : Option Addr} {c : Nat} {l : List Fd} (h : OwnFd base w sp c l) : ∀ g, blk sp = some g → base ≤ g ∧ g < w.heap.size := by
  intro g hg
  have := World.ownsRow.lt h g (by rw [ownBlock_slice]; exact hg)
  exact this
/-- Another row, where only one's own block was written. -/
theorem OwnFd.aside {base : Nat} {w w' : World} {sp sp2 : Option Addr} {c : Nat} {l : List Fd} (h : OwnFd base w sp c l) (hg : w.grownBy w' (blk sp2)) (hne : ∀ g, blk sp = some g → blk sp2 ≠ some g) : OwnFd base w' sp c l := by
  refine ⟨h.1, ?_⟩
  rcases h.2 with hv | ⟨g, cap, cur, hv, hb, hgg, r⟩
  · exact .inl hv
  · simp only [Value.slice.injEq] at hv
    refine .inr ⟨g, cap, cur, by simp only [Value.slice.injEq]; exact hv, hb, (hg.block g (Array.getElem?_eq_some_iff.1 hgg).1 (fun e => hne g (by rw [hv.1]; rfl) e.symm)).trans hgg, r⟩
/-- append of fields that lie anywhere. -/
theorem run_appendFdG {base : Nat} {w : World} {sp : Option Addr} {c : Nat} {l : List Fd} (hown : OwnFd base w sp c l) (xp : Option Addr) (m xc : Nat) (ys : List Fd) (hm : ys.length = m) (hF : FdsAt w xp ys) (hx0 : xp = none → xc = 0) (hn : (l.length + m) * 32 ≤ 140737488355328) (hbase : base ≤ w.heap.size) (ty : TypeId) :
    ∃ sp' c' w', (Builtin.append_ #[23, 23] ty #[.slice sp l.length c, .slice xp m xc]).run Tryd.prog w = .ok (.slice sp' (l.length + m) c') w' ∧ OwnFd base w' sp' c' (l ++ ys) ∧ w.grownBy w' (blk sp) ∧ ∀ g, blk sp' = some g → blk sp = some g ∨ w.heap.size ≤ g := by
  obtain ⟨i0, hi, hz0, hz1, hz2⟩ := info_parts infoFd
  cases xp with
  | none =>
    have hy : ys = [] := by
      cases ys with
      | nil => rfl
      | cons f t => obtain ⟨b, off, e, _⟩ := hF 0 (by simp); cases e
    subst hy
    subst hm
    rw [hx0 rfl]
    have hrun := run_append_owned_none (P := Tryd.prog) (w := w) base 23 ty 43 i0 2 Tryd.underlying23 hi _ _ _ hown
    exact ⟨sp, c, w, hrun, by rw [List.append_nil]; exact hown, ⟨rfl, rfl, rfl, Nat.le_refl _, fun _ _ _ => rfl⟩, fun g hg => .inl hg⟩
  | some x =>
    obtain ⟨v', w', hrun, h1, h2, _, h5⟩ := run_append_own_at (P := Tryd.prog) w base 23 ty 43 i0 _ 2 32 Tryd.underlying23 hi hz0 hz1 hz2 rfl (by omega) _ _ _ hown x m xc (rowsFd ys) (by rw [rowsFd_length, hm])
      (fun j u hu => by
        have hjl : j < (rowsFd ys).length := by
          rcases Nat.lt_or_ge j (rowsFd ys).length with h | h
          · exact h
          · rw [List.getElem?_eq_none h] at hu; cases hu
        rw [rowsFd_length] at hjl
        obtain ⟨b, off, e, c0, c1⟩ := hF (j / 2) (by omega)
        cases e
        rw [Addr.add_lit]
        have hk := rowsFd_get ys (j / 2) (j % 2) (by omega) (by omega)
        rw [show j / 2 * 2 + j % 2 = j by omega, hu] at hk
        rcases Nat.mod_two_eq_zero_or_one j with hj | hj
        · rw [hj] at hk
          rw [show off + j = off + j / 2 * 2 by omega, c0]
          simpa [fdRow] using hk.symm
        · rw [hj] at hk
          rw [show off + j = off + j / 2 * 2 + 1 by omega, c1]
          simpa [fdRow] using hk.symm) (fd_oneCell ys) (by simp only [maxLen]; omega) (by omega) hbase
    have hv : ∃ sp' c', v' = .slice sp' (l.length + m) c' := by
      rcases h1.2 with ⟨hv, h0⟩ | ⟨g, cap, cur, hv, _⟩
      · exact ⟨none, 0, by rw [hv, h0]⟩
      · exact ⟨_, _, hv⟩
    obtain ⟨sp', c', rfl⟩ := hv
    rw [ownBlock_slice] at h2
    rw [ownBlock_slice, ownBlock_slice] at h5
    refine ⟨sp', c', w', hrun, ?_, h2, fun g hg => ?_⟩
    · unfold OwnFd
      rw [List.length_append, hm, show rowsFd (l ++ ys) = rowsFd l ++ rowsFd ys from by simp [rowsFd]]
      exact h1
    · rcases h5 with h5 | h5
      · exact .inl (h5.symm.trans hg)
      · rw [h5] at hg
        exact .inr (Nat.le_of_eq (Option.some.inj hg))
theorem wpList_appendFdG {w : World} {ops : Array Oper} {rest : List Oper} {o : Oper} {a : Act} {Q : Exit → Act → World → Prop} (hgd : o.guard = none) (s x : Operand)
    (ho : o.op = .call { callee := .builtin .append, args := #[s, x], argTypes := #[23, 23] })
    (base : Nat) (sp : Option Addr) (n c : Nat) (l : List Fd) (hs : a.eval s = .slice sp n c) (hn : l.length = n) (hown : OwnFd base w sp c l) (xp : Option Addr) (m xc : Nat) (ys : List Fd) (hx : a.eval x = .slice xp m xc) (hm : ys.length = m) (hF : FdsAt w xp ys) (hx0 : xp = none → xc = 0)
    (hsz : (n + m) * 32 ≤ 140737488355328) (hbase : base ≤ w.heap.size)
    (hk : ∀ sp' c' w', OwnFd base w' sp' c' (l ++ ys) → w.grownBy w' (blk sp) → (∀ g, blk sp' = some g → blk sp = some g ∨ w.heap.size ≤ g) → wpList Tryd.prog ops Q rest (a.put o.dst (.slice sp' (n + m) c')) w') :
    wpList Tryd.prog ops Q (o :: rest) a w := by
  subst hn
  refine wpList_plain hgd fun K hK => ?_
  obtain ⟨sp', c', w', hrun, h1, h2, h3⟩ := run_appendFdG hown xp m xc ys hm hF hx0 hsz hbase o.type
  unfold Oper.wp
  simp [execOp, ho, resolve, invoke, builtin, hs, hx, hrun, Result.andThen]
  exact hK _ _ (hk sp' c' w' h1 h2 h3)
theorem fds_block {w : World} {g : Nat} {n v : Tx} (h : w.heap[g]? = some (.cells #[.string (stS n), .string (stS v)] 43 (0, 0))) : FdsAt w (some ⟨g, 0, none⟩) [⟨n, v⟩] := fun i hi => by
  have hi0 : i = 0 := by simpa using hi
  subst hi0
  exact ⟨g, 0, rfl, box_cell h 0 _ rfl, box_cell h 1 _ rfl⟩
/-- Two heads of one's own, and their rows of fields: the first one at N, the other one at N + 1. -/
structure TwoH (W1 : World) (N : Nat) (m p q x : Value) (wr : World) (nsp : Option Addr) (nc : Nat) (ns : List Fd) (tsp : Option Addr) (tc : Nat) (ts : List Fd) : Prop where
  bel : Below N W1 wr
  bn : N ≤ W1.heap.size
  rn : wr.heap[N]? = some (.cells #[m, p, q, x, .slice nsp ns.length nc] 25 (0, 0))
  rt : wr.heap[N + 1]? = some (.cells #[m, p, q, x, .slice tsp ts.length tc] 25 (0, 0))
  on : OwnFd (N + 2) wr nsp nc ns
  ot : OwnFd (N + 2) wr tsp tc ts
  ne : ∀ g, blk nsp = some g → blk tsp ≠ some g
section
variable {W1 : World} {N : Nat} {m p q x : Value} {wr W W' : World} {nsp tsp : Option Addr} {nc tc : Nat} {ns ts : List Fd}
theorem TwoH.later (h : TwoH W1 N m p q x wr nsp nc ns tsp tc ts) (hb : Below wr.heap.size wr W) : TwoH W1 N m p q x W nsp nc ns tsp tc ts :=
  ⟨h.bel.trans (hb.mono (Nat.le_trans h.bn h.bel.size)), h.bn, later_block hb h.rn, later_block hb h.rt, h.on.below hb, h.ot.below hb, h.ne⟩
theorem TwoH.sz (h : TwoH W1 N m p q x wr nsp nc ns tsp tc ts) : N + 2 ≤ wr.heap.size := (Array.getElem?_eq_some_iff.1 h.rt).1
theorem grownB {w w' : World} {sp : Option Addr} {B : Nat} (hg : w.grownBy w' (blk sp)) (hB : B ≤ w.heap.size) (hn : ∀ g, blk sp = some g → B ≤ g) : Below B w w' :=
  (Below.refl B w).grown hg hB hn
/-- One more field in the first row. -/
theorem TwoH.first (h : TwoH W1 N m p q x W nsp nc ns tsp tc ts) {sp' : Option Addr} {c' : Nat} {ys : List Fd} (ho : OwnFd (N + 2) W' sp' c' (ns ++ ys)) (hg : W.grownBy W' (blk nsp)) (hl : ∀ g, blk sp' = some g → blk nsp = some g ∨ W.heap.size ≤ g) :
    TwoH W1 N m p q x (W'.setCell ⟨N, 4, none⟩ (.slice sp' (ns ++ ys).length c')) sp' c' (ns ++ ys) tsp tc ts := by
  have hnb : ∀ g, blk nsp = some g → N + 2 ≤ g := fun g hg => (h.on.blk_lt g hg).1
  have b2 : Below (N + 2) W W' := grownB hg h.sz hnb
  have r1 : W'.heap[N]? = some (.cells #[m, p, q, x, .slice nsp ns.length nc] 25 (0, 0)) := (b2.block N (by omega)).trans h.rn
  have r2 : W'.heap[N + 1]? = some (.cells #[m, p, q, x, .slice tsp ts.length tc] 25 (0, 0)) := (b2.block (N + 1) (by omega)).trans h.rt
  have hk : ∀ g, g ≠ N → (W'.setCell ⟨N, 4, none⟩ (.slice sp' (ns ++ ys).length c')).heap[g]? = W'.heap[g]? := fun g hg => setO W' N 4 g _ hg
  refine ⟨(h.bel.trans (b2.mono (by omega))).setCell (p := ⟨N, 4, none⟩) (Nat.le_refl _) _, h.bn, heap_setCell_same W' N 4 _ _ _ r1, (hk _ (by omega)).trans r2, ho.same (fun g h1 _ => hk g (by omega)), (h.ot.aside hg (fun g h1 h2 => h.ne g h2 h1)).same (fun g h1 _ => hk g (by omega)), fun g h1 h2 => ?_⟩
  rcases hl g h1 with h3 | h3
  · exact h.ne g h3 h2
  · have := (h.ot.blk_lt g h2).2; omega
/-- One more field in the other row. -/
theorem TwoH.second (h : TwoH W1 N m p q x W nsp nc ns tsp tc ts) {sp' : Option Addr} {c' : Nat} {ys : List Fd} (ho : OwnFd (N + 2) W' sp' c' (ts ++ ys)) (hg : W.grownBy W' (blk tsp)) (hl : ∀ g, blk sp' = some g → blk tsp = some g ∨ W.heap.size ≤ g) :
    TwoH W1 N m p q x (W'.setCell ⟨N + 1, 4, none⟩ (.slice sp' (ts ++ ys).length c')) nsp nc ns sp' c' (ts ++ ys) := by
  have hnb : ∀ g, blk tsp = some g → N + 2 ≤ g := fun g hg => (h.ot.blk_lt g hg).1
  have b2 : Below (N + 2) W W' := grownB hg h.sz hnb
  have r1 : W'.heap[N]? = some (.cells #[m, p, q, x, .slice nsp ns.length nc] 25 (0, 0)) := (b2.block N (by omega)).trans h.rn
  have r2 : W'.heap[N + 1]? = some (.cells #[m, p, q, x, .slice tsp ts.length tc] 25 (0, 0)) := (b2.block (N + 1) (by omega)).trans h.rt
  have hk : ∀ g, g ≠ N + 1 → (W'.setCell ⟨N + 1, 4, none⟩ (.slice sp' (ts ++ ys).length c')).heap[g]? = W'.heap[g]? := fun g hg => setO W' (N + 1) 4 g _ hg
  refine ⟨(h.bel.trans (b2.mono (by omega))).setCell (p := ⟨N + 1, 4, none⟩) (Nat.le_succ _) _, h.bn, (hk _ (by omega)).trans r1, heap_setCell_same W' (N + 1) 4 _ _ _ r2, (h.on.aside hg h.ne).same (fun g h1 _ => hk g (by omega)), ho.same (fun g h1 _ => hk g (by omega)), fun g h1 h2 => ?_⟩
  rcases hl g h2 with h3 | h3
  · exact h.ne g h1 h3
  · have := (h.on.blk_lt g h1).2; omega
end
set_option maxRecDepth 20000 in
theorem head_nil0 {H : Type} {enc : TypeId × Value → H} {W : World} {e : Hd} {sp : Option Addr} {c : Nat} {d : DataW H} {p : List MemPlace} (h : DataW.Trod enc Tryd.prog W 0 (fun _ => true) true 25 (hdVal e sp c) d p) : sp = none → c = 0 := by
  obtain ⟨fuel, hf⟩ := h
  obtain ⟨xs, n, _, he, _, hx, hfs⟩ := DataW.trod_struct Tryd.underlying25 hf
  obtain ⟨y0, y1, y2, y3, y4, rfl⟩ := list5h (show xs.length = 5 from hx)
  have t4 : DataW.trod enc Tryd.prog W 0 (fun _ => true) true n 23 [.slice sp e.fields.length c] = some y4 := hfs 4 _ rfl
  rcases Deep.open_slice Tryd.underlying23 t4 with ⟨hcs, _⟩ | ⟨x, l, c1, m, n1, D, Pl, hcs, _⟩
  · simp at hcs
    exact fun _ => hcs.2.2
  · simp at hcs
    rintro rfl
    exact absurd hcs.1 (by simp)
end Go.Proofs.YtmmiadlmdjfepaaDoor
