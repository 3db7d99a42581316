/- Flight, the document's answer: add, Send, Double. -/
import Derived.Test.YticemhnfcelpmaaRf5
import Derived.Deep.RegionLaw
namespace Go.Proofs.Yticemhnfcelpmaa
open Go.ChangeShapes Go.WideShapes Go.ChangeAt Go.RowKit

theorem infoS : (Try.prog.info? 77).map (fun i => (i.zero, i.size, i.bytes)) = some (some (.agg #[.int .i64 0, .int .i64 0, .int .i64 0, .slice none 0 0, .bool false]), 5, 56) := by kernel_rfl
theorem s_oneCell (x : SPk) : ∀ u ∈ sRow x, u.oneCell' = true := by
  intro u hu
  simp only [sRow, pkRow, List.cons_append, List.nil_append, List.mem_cons, List.not_mem_nil, or_false] at hu
  rcases hu with rfl | rfl | rfl | rfl | rfl <;> rfl
theorem run_appendS {w : World} (base : Nat) (sp : Option Addr) (c : Nat) (zs : List SPk) (hown : OwnS base w sp c zs) (B : Nat) (x : SPk)
    (hB : w.heap[B]? = some (.cells (sRow x).toArray 77 (0, 0))) (hd : OwnB base w x.1.2.1 x.1.2.2 x.1.1.2.2.2) (hn : zs.length ≤ 1048576) (hbase : base ≤ w.heap.size) (ty : TypeId) :
    ∃ sp' c' w', (Builtin.append_ #[66, 66] ty #[.slice sp zs.length c, .slice (some ⟨B, 0, none⟩) 1 1]).run Try.prog w = .ok (.slice sp' (zs.length + 1) c') w' ∧ OwnS base w' sp' c' (zs ++ [x]) ∧ w.grownBy w' (blk sp) ∧ ∀ g, blk sp' = some g → blk sp = some g ∨ w.heap.size ≤ g := by
  obtain ⟨i0, hi, hz0, hz1, hz2⟩ := info_parts infoS
  obtain ⟨v', w', hrun, h1, h2, _, h5⟩ := run_append_own_at (P := Try.prog) w base 66 ty 77 i0 _ 5 56 Try.underlying66 hi hz0 hz1 hz2 rfl (by omega) _ _ _ hown.row ⟨B, 0, none⟩ 1 1 (sRow x) rfl
    (fun j u hu => by have := World.news_of_block hB j u; simp only at this; exact this hu) (s_oneCell x) (by simp only [maxLen]; omega) (by omega) hbase
  have hv : ∃ sp' c', v' = .slice sp' (zs.length + 1) c' := by
    rcases h1.2 with ⟨hv, h0⟩ | ⟨g, cap, cur, hv, _⟩
    · omega
    · exact ⟨_, _, hv⟩
  obtain ⟨sp', c', rfl⟩ := hv
  rw [ownBlock_slice] at h2
  rw [ownBlock_slice, ownBlock_slice] at h5
  have hd0 := hd.mono (Nat.zero_le base)
  have hne : ∀ y : SPk, OwnB 0 w y.1.2.1 y.1.2.2 y.1.1.2.2.2 → ∀ g, blk y.1.2.1 = some g → blk sp ≠ some g := by
    intro y hy g hg hs
    obtain ⟨cur, hc⟩ := hown.blk_is g hs
    exact hy.ne_block hc (by decide) hg
  refine ⟨sp', c', w', hrun, ⟨?_, ?_⟩, h2, fun g hg => ?_⟩
  · rw [rowsS_snoc, List.length_append]
    exact h1
  · intro y hy
    rcases List.mem_append.1 hy with h | h
    · exact (hown.dat y h).grownNe h2 (hne y (hown.dat y h))
    · rw [List.mem_singleton] at h; subst h; exact hd0.grownNe h2 (hne y hd0)
  · rcases h5 with h5 | h5
    · exact .inl (h5.symm.trans hg)
    · rw [h5] at hg
      exact .inr (Nat.le_of_eq (Option.some.inj hg))
theorem step_appendS {w : World} {ops : Array Oper} {o : Oper} {a : Act} {K : Act → World → Prop} {Q : Exit → Act → World → Prop} {E : Prop} (hgd : o.guard = none) (s x : Operand)
    (ho : o.op = .call { callee := .builtin .append, args := #[s, x], argTypes := #[66, 66] })
    (base : Nat) (sp : Option Addr) (n c : Nat) (zs : List SPk) (hs : a.eval s = .slice sp n c) (hn : zs.length = n) (hown : OwnS base w sp c zs) (B : Nat) (e : SPk) (hx : a.eval x = .slice (some ⟨B, 0, none⟩) 1 1)
    (hB : w.heap[B]? = some (.cells (sRow e).toArray 77 (0, 0))) (hd : OwnB base w e.1.2.1 e.1.2.2 e.1.1.2.2.2) (hlen : zs.length ≤ 1048576) (hbase : base ≤ w.heap.size)
    (hk : ∀ sp' c' w', OwnS base w' sp' c' (zs ++ [e]) → w.grownBy w' (blk sp) → (∀ g, blk sp' = some g → blk sp = some g ∨ w.heap.size ≤ g) → K (a.put o.dst (.slice sp' (n + 1) c')) w') :
    if Region.wanted o (yielded ops a.tmps) = true then Oper.wp Try.prog o a w K Q else E := by
  subst hn
  have hw : Region.wanted o (yielded ops a.tmps) = true := by simp [Region.wanted, hgd]
  rw [if_pos hw]
  obtain ⟨sp', c', w', hrun, h1, h2, h3⟩ := run_appendS (w := w) base sp c zs hown B e hB hd hlen hbase o.type
  unfold Oper.wp
  simp [execOp, ho, resolve, invoke, builtin, hs, hx, hrun, Result.andThen]
  exact hk sp' c' w' h1 h2 h3
end Go.Proofs.Yticemhnfcelpmaa
