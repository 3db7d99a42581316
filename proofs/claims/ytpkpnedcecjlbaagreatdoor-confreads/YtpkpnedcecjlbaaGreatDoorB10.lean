/- Conf: bits of floats. -/
import Derived.Test.YtpkpnedcecjlbaaGreatDoorB02
import Derived.Maps.AppendAt
import Derived.Deep.RegionLaw
section
namespace Go.Proofs.YtpkpnedcecjlbaaGreatDoor
open Go.ChangeShapes Go.WideShapes Go.ChangeAt Go.RowKit
set_option linter.unusedVariables false

theorem cbits_call (x : Nat) (w : World) : (callFunc 18 #[.float .f64 x]).run Tryz.prog w = .ok (.value (.int .u64 (x : Int))) w := by
  rw [run_callFunc_extern Tryz.func18 (by kernel_rfl) (by kernel_rfl) (by kernel_rfl) (e := Extern.MathFloatBits.float64bits) (by kernel_rfl)]
  rfl
theorem cfrom_call (x : Nat) (w : World) : (callFunc 16 #[.int .u64 (x : Int)]).run Tryz.prog w = .ok (.value (.float .f64 x)) w := by
  rw [run_callFunc_extern Tryz.func16 (by kernel_rfl) (by kernel_rfl) (by kernel_rfl) (e := Extern.MathFloatBits.float64frombits) (by kernel_rfl)]
  rfl
end Go.Proofs.YtpkpnedcecjlbaaGreatDoor
end
/- Plane: targets of one's own. -/
section
namespace Go.Proofs.YtpkpnedcecjlbaaGreatDoor
open Go.ChangeShapes Go.WideShapes Go.ChangeAt Go.RowKit

def tgRow (t : Tg) : List Value := [.string t.1, .float .f64 t.2]
def rowsT (l : List Tg) : List Value := l.flatMap tgRow
theorem rowsT_length (l : List Tg) : (rowsT l).length = l.length * 2 := by
  induction l with
  | nil => rfl
  | cons x xs ih =>
    simp only [rowsT, List.flatMap_cons, List.length_append, List.length_cons] at ih ⊢
    rw [ih, show (tgRow x).length = 2 from rfl]
    omega
theorem rowsT_get : ∀ (xs : List Tg) (i f : Nat) (hi : i < xs.length) (_ : f < 2), (rowsT xs)[i * 2 + f]? = (tgRow xs[i])[f]?
  | [], i, _, hi, _ => by simp at hi
  | x :: xs, 0, f, _, hf => by
    simp only [rowsT, List.flatMap_cons, Nat.zero_mul, Nat.zero_add, List.getElem_cons_zero]
    rw [List.getElem?_append_left (show f < (tgRow x).length from hf)]
  | x :: xs, i + 1, f, hi, hf => by
    have ih := rowsT_get xs i f (by simpa using hi) hf
    simp only [rowsT, List.flatMap_cons, List.getElem_cons_succ] at ih ⊢
    rw [List.getElem?_append_right (by rw [show (tgRow x).length = 2 from rfl]; omega)]
    have e4 : (i + 1) * 2 + f - (tgRow x).length = i * 2 + f := by rw [show (tgRow x).length = 2 from rfl]; omega
    rw [e4]
    exact ih
theorem tg_oneCell (l : List Tg) : ∀ u ∈ rowsT l, u.oneCell' = true := by
  intro u hu
  obtain ⟨t, _, ht⟩ := List.mem_flatMap.1 hu
  simp only [tgRow, List.mem_cons, List.not_mem_nil, or_false] at ht
  rcases ht with rfl | rfl <;> rfl
theorem infoT : (Tryz.prog.info? 43).map (fun i => (i.zero, i.size, i.bytes)) = some (some (.agg #[.string ByteArray.empty, .float .f64 0]), 2, 24) := by kernel_rfl
/-- Targets of one's own. -/
def OwnT (base : Nat) (w : World) (sp : Option Addr) (c : Nat) (l : List Tg) : Prop := w.ownsRow base 43 2 (.slice sp l.length c) l.length (rowsT l)
theorem OwnT.ofNil (base : Nat) (w : World) : OwnT base w none 0 [] := w.ownsRow_nil base 43 2
theorem OwnT.at_ {base : Nat} {w : World} {sp : Option Addr} {c : Nat} {l : List Tg} (h : OwnT base w sp c l) (hl : ∀ t ∈ l, t.2 < 18446744073709551616) : TgsAt w sp l := by
  refine ⟨hl, fun i hi => ?_⟩
  rcases h.2 with ⟨hv, h0⟩ | ⟨g, cap, cur, hv, hb, hg, hle, hmx, hsz, ht⟩
  · omega
  · simp only [Value.slice.injEq] at hv
    obtain ⟨rfl, _, rfl⟩ := hv
    refine ⟨g, 0, rfl, ?_, ?_⟩
    · have hk := rowsT_get l i 0 hi (by omega)
      rw [Nat.zero_add, cell_of_row w g _ cur _ _ hg, ← Array.getElem?_toList]
      have hj : i * 2 + 0 < l.length * 2 := by omega
      rw [← ht, List.getElem?_take, if_pos hj] at hk
      exact hk
    · have hk := rowsT_get l i 1 hi (by omega)
      rw [Nat.zero_add, cell_of_row w g _ cur _ _ hg, ← Array.getElem?_toList]
      have hj : i * 2 + 1 < l.length * 2 := by omega
      rw [← ht, List.getElem?_take, if_pos hj] at hk
      exact hk
theorem run_appendT {base : Nat} {w : World} {sp : Option Addr} {c : Nat} {l : List Tg} (hown : OwnT base w sp c l) (B : Nat) (ys : List Tg) (m : Nat) (hm : ys.length = m) (hB : w.heap[B]? = some (.cells (rowsT ys).toArray 43 (0, 0))) (hn : (l.length + m) * 24 ≤ 140737488355328) (hbase : base ≤ w.heap.size) (ty : TypeId) :
    ∃ sp' c' w', (Builtin.append_ #[23, 23] ty #[.slice sp l.length c, .slice (some ⟨B, 0, none⟩) m m]).run Tryz.prog w = .ok (.slice sp' (l.length + m) c') w' ∧ OwnT base w' sp' c' (l ++ ys) ∧ Below base w w' := by
  obtain ⟨i0, hi, hz0, hz1, hz2⟩ := info_parts infoT
  obtain ⟨v', w', hrun, h1, h2, _, h5⟩ := run_append_own_at (P := Tryz.prog) w base 23 ty 43 i0 _ 2 24 Tryz.underlying23 hi hz0 hz1 hz2 rfl (by omega) _ _ _ hown ⟨B, 0, none⟩ m m (rowsT ys) (by rw [rowsT_length, hm])
    (fun j u hu => by have := World.news_of_block hB j u; simp only at this; exact this hu) (tg_oneCell ys) (by simp only [maxLen]; omega) (by omega) hbase
  have hv : ∃ sp' c', v' = .slice sp' (l.length + m) c' := by
    rcases h1.2 with ⟨hv, h0⟩ | ⟨g, cap, cur, hv, _⟩
    · exact ⟨none, 0, by rw [hv, h0]⟩
    · exact ⟨_, _, hv⟩
  obtain ⟨sp', c', rfl⟩ := hv
  refine ⟨sp', c', w', hrun, ?_, (Below.refl base w).grown h2 hbase (fun g hg => (hown.lt g hg).1)⟩
  unfold OwnT
  rw [List.length_append, hm, show rowsT (l ++ ys) = rowsT l ++ rowsT ys from by simp [rowsT]]
  exact h1
theorem wpList_appendT {w : World} {ops : Array Oper} {rest : List Oper} {o : Oper} {a : Act} {Q : Exit → Act → World → Prop} (hgd : o.guard = none) (s x : Operand)
    (ho : o.op = .call { callee := .builtin .append, args := #[s, x], argTypes := #[23, 23] })
    (base : Nat) (sp : Option Addr) (n c : Nat) (l : List Tg) (hs : a.eval s = .slice sp n c) (hn : l.length = n) (hown : OwnT base w sp c l) (B : Nat) (ys : List Tg) (m : Nat) (hm : ys.length = m) (hx : a.eval x = .slice (some ⟨B, 0, none⟩) m m)
    (hB : w.heap[B]? = some (.cells (rowsT ys).toArray 43 (0, 0))) (hsz : (n + m) * 24 ≤ 140737488355328) (hbase : base ≤ w.heap.size)
    (hk : ∀ sp' c' w', OwnT base w' sp' c' (l ++ ys) → Below base w w' → wpList Tryz.prog ops Q rest (a.put o.dst (.slice sp' (n + m) c')) w') :
    wpList Tryz.prog ops Q (o :: rest) a w := by
  subst hn
  refine wpList_plain hgd fun K hK => ?_
  obtain ⟨sp', c', w', hrun, h1, h2⟩ := run_appendT hown B ys m hm hB hsz hbase o.type
  unfold Oper.wp
  simp [execOp, ho, resolve, invoke, builtin, hs, hx, hrun, Result.andThen]
  exact hK _ _ (hk sp' c' w' h1 h2)
theorem OwnT.below {base : Nat} {w w' : World} {sp : Option Addr} {c : Nat} {l : List Tg} (h : OwnT base w sp c l) (hb : Below w.heap.size w w') : OwnT base w' sp c l := by
  refine ⟨h.1, ?_⟩
  rcases h.2 with hv | ⟨g, cap, cur, hv, hbg, hg, r⟩
  · exact .inl hv
  · exact .inr ⟨g, cap, cur, hv, hbg, (hb.block g (Array.getElem?_eq_some_iff.1 hg).1).trans hg, r⟩
end Go.Proofs.YtpkpnedcecjlbaaGreatDoor
end
