/- Disk: changes cloned; a file's fork. -/
import Derived.Test.YtijcpmbfhfppmaaGreatDoorDk9
namespace Go.Proofs.YtijcpmbfhfppmaaGreatDoor
open Go.ChangeShapes Go.WideShapes Go.ChangeAt Go.RowKit

theorem rowsC_oneCell (xs : List ChH) : ∀ u ∈ rowsC xs, u.oneCell' = true := by
  intro u hu
  simp only [rowsC, List.mem_flatMap] at hu
  obtain ⟨x, _, hx⟩ := hu
  exact ch_oneCell x u hx
theorem OwnC.news {base : Nat} {w : World} {sp : Option Addr} {c : Nat} {xs : List ChH} (h : OwnC base w sp c xs) (g : Nat) (hs : sp = some ⟨g, 0, none⟩) : ∀ j u, (rowsC xs)[j]? = some u → w.cell? ((⟨g, 0, none⟩ : Addr).add j) = some u := by
  intro j u hu
  rcases h.row.2 with ⟨hv, _⟩ | ⟨g1, cap, cur, hv, _, hg, _, _, _, ht⟩
  · simp only [Value.slice.injEq] at hv
    rw [hv.1] at hs; cases hs
  · simp only [Value.slice.injEq] at hv
    rw [hv.1] at hs
    obtain rfl : g1 = g := by simpa using hs
    rw [Addr.add_lit, Nat.zero_add, cell_of_row w g1 j cur _ _ hg]
    have hlt : j < xs.length * 3 := by rw [← rowsC_length]; exact (List.getElem?_eq_some_iff.1 hu).1
    rw [← ht, List.getElem?_take, if_pos hlt] at hu
    simpa using hu
/-- append([]change{}, s...). -/
theorem run_cloneC {base : Nat} {w : World} {sp : Option Addr} {c : Nat} {xs : List ChH} (h : OwnC base w sp c xs) (g : Nat) (hs : sp = some ⟨g, 0, none⟩) (E : Nat) (hE : w.heap[E]? = some (.cells #[] 152 (0, 0))) (hn : xs.length * 40 ≤ 140737488355328) (hsz : E ≤ w.heap.size) (ty : TypeId) :
    ∃ sp' c' w', (Builtin.append_ #[116, 116] ty #[.slice (some ⟨E, 0, none⟩) 0 0, .slice sp xs.length c]).run Tryz.prog w = .ok (.slice sp' xs.length c') w' ∧ w'.ownsRow E 152 3 (.slice sp' xs.length c') xs.length (rowsC xs) ∧ w.grownBy w' (some E) := by
  subst hs
  obtain ⟨i0, hi, hz0, hz1, hz2⟩ := info_parts infoC
  have he : w.ownsRow E 152 3 (.slice (some ⟨E, 0, none⟩) 0 0) 0 [] := ⟨rfl, .inr ⟨E, 0, #[], rfl, Nat.le_refl _, hE, Nat.le_refl _, by simp [maxLen], rfl, rfl⟩⟩
  obtain ⟨v', w', hrun, h1, h2, _, h5⟩ := run_append_own_at (P := Tryz.prog) w E 116 ty 152 i0 _ 3 40 Tryz.underlying116 hi hz0 hz1 hz2 rfl (by omega) _ _ _ he ⟨g, 0, none⟩ xs.length c (rowsC xs) (rowsC_length xs)
    (h.news g rfl) (rowsC_oneCell xs) (by simp only [maxLen]; omega) (by omega) hsz
  rw [List.nil_append, Nat.zero_add] at h1
  rw [ownBlock_slice] at h2
  have hv : ∃ sp' c', v' = .slice sp' xs.length c' := by
    rcases h1.2 with ⟨hv, h0⟩ | ⟨g, cap, cur, hv, _⟩
    · exact ⟨none, 0, by rw [hv, h0]⟩
    · exact ⟨_, _, hv⟩
  obtain ⟨sp', c', rfl⟩ := hv
  exact ⟨sp', c', w', hrun, h1, h2⟩
theorem wpList_cloneC {w : World} {ops : Array Oper} {rest : List Oper} {o : Oper} {a : Act} {Q : Exit → Act → World → Prop} (hgd : o.guard = none) (s x : Operand)
    (ho : o.op = .call { callee := .builtin .append, args := #[s, x], argTypes := #[116, 116] })
    (base : Nat) (sp : Option Addr) (n c : Nat) (xs : List ChH) (hx : a.eval x = .slice sp n c) (hn : xs.length = n) (hown : OwnC base w sp c xs) (g : Nat) (hsp : sp = some ⟨g, 0, none⟩) (E : Nat) (hs : a.eval s = .slice (some ⟨E, 0, none⟩) 0 0)
    (hE : w.heap[E]? = some (.cells #[] 152 (0, 0))) (hlen : n * 40 ≤ 140737488355328) (hsz : E ≤ w.heap.size)
    (hk : ∀ sp' c' w', w'.ownsRow E 152 3 (.slice sp' n c') n (rowsC xs) → w.grownBy w' (some E) → wpList Tryz.prog ops Q rest (a.put o.dst (.slice sp' n c')) w') :
    wpList Tryz.prog ops Q (o :: rest) a w := by
  subst hn
  refine wpList_plain hgd fun K hK => ?_
  obtain ⟨sp', c', w', hrun, h1, h2⟩ := run_cloneC hown g hsp E hE hlen hsz o.type
  unfold Oper.wp
  simp [execOp, ho, resolve, invoke, builtin, hs, hx, hrun, Result.andThen]
  exact hK _ _ (hk sp' c' w' h1 h2)
theorem eqNilC_some (ad : Addr) (n c : Nat) (w : World) : (binOp .eql 116 (.slice (some ad) n c) (.slice none 0 0)).run Tryz.prog w = .ok (.bool false) w := by kernel_rfl
theorem eqNilC_none (n c : Nat) (w : World) : (binOp .eql 116 (.slice none n c) (.slice none 0 0)).run Tryz.prog w = .ok (.bool true) w := by kernel_rfl
theorem OwnC.shape {base : Nat} {w : World} {sp : Option Addr} {c : Nat} {xs : List ChH} (h : OwnC base w sp c xs) : (sp = none ∧ c = 0 ∧ xs = []) ∨ ∃ g, sp = some ⟨g, 0, none⟩ := by
  rcases h.row.2 with ⟨hv, h0⟩ | ⟨g1, cap, cur, hv, _⟩
  · simp only [Value.slice.injEq] at hv
    exact .inl ⟨hv.1, hv.2.2, List.eq_nil_of_length_eq_zero h0⟩
  · simp only [Value.slice.injEq] at hv
    exact .inr ⟨g1, hv.1⟩
theorem ownsRow_mono {base base' : Nat} {w : World} {e : TypeId} {size n : Nat} {v : Value} {xs : List Value} (h : w.ownsRow base e size v n xs) (hb : base' ≤ base) : w.ownsRow base' e size v n xs := by
  refine ⟨h.1, ?_⟩
  rcases h.2 with hv | ⟨g, cap, cur, hv, hbg, r⟩
  · exact .inl hv
  · exact .inr ⟨g, cap, cur, hv, by omega, r⟩
theorem OwnC.mono {base base' : Nat} {w : World} {sp : Option Addr} {c : Nat} {xs : List ChH} (h : OwnC base w sp c xs) (hb : base' ≤ base) : OwnC base' w sp c xs := ⟨ownsRow_mono h.row hb, h.dat⟩
end Go.Proofs.YtijcpmbfhfppmaaGreatDoor
