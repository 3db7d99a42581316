/- Member: Apply in a region that draws its order. -/
import Derived.Test.YtnclkkoefejjiaaMpu
namespace Go.Proofs.Ytnclkkoefejjiaa
open Go.ChangeShapes Go.WideShapes Go.ChangeAt Go.RowKit

/-- What Apply has told, in memory. -/
def AR (v l : List Int) (d n : Int) (base : Nat) (W : World) (spA : Option Addr) (nA cA : Nat) (spB : Option Addr) (nB cB : Nat) (er : Int) : Prop :=
  (er ≠ 0 ∧ er = applyE v l d n) ∨
  (er = 0 ∧ applyE v l d n = 0 ∧ (votersTo v l n (turnedM (kindM v l n) d v.length).1).length = nA ∧ (learnersTo v l n (turnedM (kindM v l n) d v.length).1).length = nB ∧
    OwnI base W spA cA (votersTo v l n (turnedM (kindM v l n) d v.length).1) ∧ OwnI base W spB cB (learnersTo v l n (turnedM (kindM v l n) d v.length).1))
section
variable {v l : List Int} {d n : Int} {base : Nat} {W : World} {spA : Option Addr} {nA cA : Nat} {spB : Option Addr} {nB cB : Nat} {er : Int}
theorem apply_open {e : Ending} (h : ApplyRes v l d n base e W) : ∃ spA nA cA spB nB cB er, e = .returned (.tuple #[mV spA nA cA spB nB cB, .int .i64 er]) ∧ AR v l d n base W spA nA cA spB nB cB er := by
  rcases h with ⟨h1, h2⟩ | ⟨h1, _, _, spA, nA, cA, spB, nB, cB, h2, h3, h4, h5, h6, _⟩
  · exact ⟨none, 0, 0, none, 0, 0, _, h2, .inl ⟨h1, rfl⟩⟩
  · exact ⟨spA, nA, cA, spB, nB, cB, 0, h2, .inr ⟨rfl, h1, h3, h4, h5, h6⟩⟩
theorem AR.later {W' : World} (h : AR v l d n base W spA nA cA spB nB cB er) (hb : Below W.heap.size W W') : AR v l d n base W' spA nA cA spB nB cB er := by
  rcases h with h | ⟨h1, h2, h3, h4, h5, h6⟩
  · exact .inl h
  · exact .inr ⟨h1, h2, h3, h4, h5.later hb, h6.later hb⟩
theorem AR.lt (h : AR v l d n base W spA nA cA spB nB cB er) : ∀ b, er = 0 → (blk spA = some b ∨ blk spB = some b) → base ≤ b ∧ b < W.heap.size := by
  intro b h0 hb
  rcases h with ⟨h1, _⟩ | ⟨_, _, _, _, h5, h6⟩
  · exact absurd h0 h1
  · rcases hb with hb | hb
    · exact h5.blk_lt b hb
    · exact h6.blk_lt b hb
theorem AR.kept {W' : World} {g : Nat} (h : AR v l d n base W spA nA cA spB nB cB er) (hg : W.grownBy W' (some g)) (hne : ∀ b, er = 0 → (blk spA = some b ∨ blk spB = some b) → b ≠ g) : AR v l d n base W' spA nA cA spB nB cB er := by
  rcases h with h | ⟨h1, h2, h3, h4, h5, h6⟩
  · exact .inl h
  · exact .inr ⟨h1, h2, h3, h4, h5.kept hg (fun b hb e => hne b h1 (.inl hb) (Option.some.inj e).symm), h6.kept hg (fun b hb e => hne b h1 (.inr hb) (Option.some.inj e).symm)⟩
theorem AR.mono {base' : Nat} (h : AR v l d n base W spA nA cA spB nB cB er) (hb : base' ≤ base) : AR v l d n base' W spA nA cA spB nB cB er := by
  rcases h with h | ⟨h1, h2, h3, h4, h5, h6⟩
  · exact .inl h
  · exact .inr ⟨h1, h2, h3, h4, h5.mono hb, h6.mono hb⟩
end
theorem step_alloc24 {w : World} {ops : Array Oper} {o : Oper} {a : Act} {K : Act → World → Prop} {Q : Exit → Act → World → Prop} {E : Prop} (hgd : o.guard = none)
    (ho : o.op = .alloc 24)
    (h : ∀ g w', Hid (g = w.heap.size) → w'.heap[g]? = some (mB none 0 0 none 0 0) → Below w.heap.size w w' → K (a.put o.dst (.pointer (some ⟨g, 0, none⟩))) w') :
    if Region.wanted o (yielded ops a.tmps) = true then Oper.wp Try.prog o a w K Q else E := by
  have hw : Region.wanted o (yielded ops a.tmps) = true := by simp [Region.wanted, hgd]
  rw [if_pos hw]
  have h1 := h w.heap.size (w.alloc (mB none 0 0 none 0 0)) rfl (heap_new _ _) ((Below.refl _ _).alloc (Nat.le_refl _) _)
  have hz : (zeroValue 24).run Try.prog w = .ok (mV none 0 0 none 0 0) w := by kernel_rfl
  unfold Oper.wp
  simp [execOp, ho, go_sem, hz]
  exact h1
theorem set2_cell {u : World} {b off g : Nat} {x : Value} (h : u.cell? ⟨b, off, none⟩ = some x) (hne : b ≠ g) (a c : Value) : ((u.setCell ⟨g, 0, none⟩ a).setCell ⟨g, 1, none⟩ c).cell? ⟨b, off, none⟩ = some x := by
  have hg : u.grownBy ((u.setCell ⟨g, 0, none⟩ a).setCell ⟨g, 1, none⟩ c) (some g) := grown_trans (grown_set u g 0 a) (grown_set _ g 1 c)
  have e := hg.block b (cell_lt h) (fun e => hne (Option.some.inj e))
  simp only [World.cell?, e] at h ⊢
  exact h
end Go.Proofs.Ytnclkkoefejjiaa
