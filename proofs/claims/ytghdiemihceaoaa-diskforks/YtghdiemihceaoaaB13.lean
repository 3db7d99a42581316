/- The document's disk: Fork. -/
import Derived.Test.YtghdiemihceaoaaB07
import Derived.Test.YtghdiemihceaoaaB12
import Derived.Deep.RegionLaw
namespace Go.Proofs.Ytghdiemihceaoaa
open Go.ChangeShapes Go.WideShapes Go.ChangeAt Go.RowKit Go.Maps

theorem rows_oneCell (rs : List Rf) : ∀ u ∈ rs.flatMap rfRow, u.oneCell' = true := by
  intro u hu
  obtain ⟨x, _, hx⟩ := List.mem_flatMap.1 hu
  exact rf_oneCell x u hx
theorem rows_length (rs : List Rf) : (rs.flatMap rfRow).length = rs.length * 4 := by
  induction rs with
  | nil => rfl
  | cons x xs ih => simp only [List.flatMap_cons, List.length_append, List.length_cons, rfRow_length, ih]; omega
section
variable {base : Nat} {w w' : World} {sp : Option Addr} {c : Nat} {rs : List Rf}
/-- append([]file{}, l...). -/
theorem run_cloneR (h : OwnR base w sp c rs) (E : Nat) (hE : w.heap[E]? = some (.cells #[] 80 (0, 0))) (hn : rs.length ≤ 1000) (ty : TypeId) :
    ∃ sp' c' w', (Builtin.append_ #[66, 66] ty #[.slice (some ⟨E, 0, none⟩) 0 0, .slice sp rs.length c]).run Try.prog w = .ok (.slice sp' rs.length c') w' ∧ OwnR 0 w' sp' c' rs ∧ (∀ g, blk sp' = some g → E ≤ g) ∧ w.grownBy w' (some E) := by
  obtain ⟨i0, hi, hz0, hz1, hz2⟩ := info_parts infoR
  have he : w.ownsRow E 80 4 (.slice (some ⟨E, 0, none⟩) 0 0) 0 [] := ⟨rfl, .inr ⟨E, 0, #[], rfl, Nat.le_refl _, hE, Nat.le_refl _, by simp [maxLen], rfl, rfl⟩⟩
  have hEl : E < w.heap.size := (Array.getElem?_eq_some_iff.1 hE).1
  rcases h.row.2 with ⟨hv, h0⟩ | ⟨g, cap, cur, hv, hbg, hg, hle, hmx, hsz, ht⟩
  · simp only [Value.slice.injEq] at hv
    obtain ⟨rfl, _, rfl⟩ := hv
    have hz : rs = [] := List.eq_nil_of_length_eq_zero h0
    subst hz
    have hrun := run_append_owned_none (P := Try.prog) (w := w) E 66 ty 80 i0 4 Try.underlying66 hi _ _ _ he
    exact ⟨_, _, _, hrun, ⟨own_mono he (Nat.zero_le _), by simp⟩, fun g hg => Nat.le_of_eq (by simpa [blk] using hg), grown_refl _ _⟩
  · simp only [Value.slice.injEq] at hv
    obtain ⟨rfl, _, rfl⟩ := hv
    obtain ⟨v', w', hrun, h1, h2, _, h5⟩ := run_append_own_at (P := Try.prog) w E 66 ty 80 i0 _ 4 72 Try.underlying66 hi hz0 hz1 hz2 rfl (by omega) _ _ _ he ⟨g, 0, none⟩ rs.length c (rs.flatMap rfRow) (rows_length rs)
      (fun j u hu => by
        rw [Addr.add_lit, Nat.zero_add, cell_of_row w g j cur _ _ hg]
        have hj : j < rs.length * 4 := by rw [← rows_length]; exact (List.getElem?_eq_some_iff.1 hu).1
        rw [← ht, List.getElem?_take, if_pos hj] at hu
        rw [← Array.getElem?_toList]
        exact hu) (rows_oneCell rs) (by simp only [maxLen]; omega) (by omega) (by omega)
    have hv : ∃ sp' c', v' = .slice sp' rs.length c' := by
      rcases h1.2 with ⟨hv, h0⟩ | ⟨g1, cap, cur, hv, _⟩
      · exact ⟨none, 0, by rw [hv]; simp; omega⟩
      · exact ⟨_, _, by rw [hv, Nat.zero_add]⟩
    obtain ⟨sp', c', rfl⟩ := hv
    rw [ownBlock_slice] at h2
    rw [List.nil_append, Nat.zero_add] at h1
    refine ⟨sp', c', w', hrun, ⟨own_mono h1 (Nat.zero_le _), fun x hx => ((h.dat x hx).mono (Nat.zero_le _)).same (fun q hq => h2.block q ((h.dat x hx).lt hq).2 (fun e => ?_))⟩, fun q hq => (own_is h1 q hq).1, h2⟩
    have e2 : E = q := by simpa [blk] using e.symm
    subst e2
    rcases hq with hq | hq
    · obtain ⟨_, _, cur2, hc2⟩ := (h.dat x hx).sure.isT E hq
      rw [hE] at hc2; simp at hc2
    · obtain ⟨_, _, cur2, hc2⟩ := own_is (h.dat x hx).units E hq
      rw [hE] at hc2; simp at hc2
end
theorem step_cloneR {w : World} {ops : Array Oper} {o : Oper} {a : Act} {K : Act → World → Prop} {Q : Exit → Act → World → Prop} {E0 : Prop} (hgd : o.guard = none) (s x : Operand)
    (ho : o.op = .call { callee := .builtin .append, args := #[s, x], argTypes := #[66, 66] })
    (base : Nat) (sp : Option Addr) (n c : Nat) (rs : List Rf) (E : Nat) (hs : a.eval s = .slice (some ⟨E, 0, none⟩) 0 0) (hx : a.eval x = .slice sp n c) (hn : rs.length = n) (hown : OwnR base w sp c rs)
    (hE : w.heap[E]? = some (.cells #[] 80 (0, 0))) (hsz : n ≤ 1000)
    (hk : ∀ sp' c' w', OwnR 0 w' sp' c' rs → (∀ g, blk sp' = some g → E ≤ g) → w.grownBy w' (some E) → K (a.put o.dst (.slice sp' n c')) w') :
    if Region.wanted o (yielded ops a.tmps) = true then Oper.wp Try.prog o a w K Q else E0 := by
  subst hn
  have hw : Region.wanted o (yielded ops a.tmps) = true := by simp [Region.wanted, hgd]
  rw [if_pos hw]
  obtain ⟨sp', c', w', hrun, h1, h2, h3⟩ := run_cloneR hown E hE hsz o.type
  unfold Oper.wp
  simp [execOp, ho, resolve, invoke, builtin, hs, hx, hrun, Result.andThen]
  exact hk sp' c' w' h1 h2 h3
set_option maxRecDepth 20000 in
set_option maxHeartbeats 4000000 in
theorem rfork_calls {base R room : Nat} {w : World} {sp : Option Addr} {c : Nat} {rs : List Rf} (h : RefAt base w R room sp c rs) :
    Calls Try.prog 32 #[.pointer (some ⟨R, 0, none⟩)] w fun e w' => ∃ R' sp' c', e = .returned (.pointer (some ⟨R', 0, none⟩)) ∧ RefAt 0 w' R' room sp' c' rs ∧ w.heap.size ≤ R' ∧ (∀ g, blk sp' = some g → w.heap.size ≤ g) ∧ Below w.heap.size w w' := by
  have c0 := h.c0
  have c1 := h.c1
  have H := hide h
  have hf := h.few
  have b1 : Below w.heap.size w (w.drew.alloc (.cells #[] 80)) := ((Below.refl w.heap.size w).drew).alloc (Nat.le_refl _) _
  have B1 := hide b1
  have O1 := hide (h.own.later b1)
  have E1 := hide (show (w.drew.alloc (.cells #[] 80)).heap[w.heap.size]? = some (.cells #[] 80 (0, 0)) from heap_new w.drew _)
  have HR := hide h.rise
  generalize hn : rs.length = n at *
  have HN := hide hn
  have SS := hide (show ∀ W : World, Below w.heap.size w W → W.cell? ⟨R, 0, none⟩ = some (.int .i64 (room : Int)) ∧ W.cell? ⟨R, 1, none⟩ = some (.slice sp n c) from fun W hb => ⟨cell_later hb c0, cell_later hb c1⟩)
  have RF := hide (show ∀ (W : World) (sp3 : Option Addr) (c3 : Nat), OwnR 0 W sp3 c3 rs → RefAt 0 (W.alloc (.cells #[.int .i64 (room : Int), .slice sp3 n c3] 68)) W.heap.size room sp3 c3 rs from fun W sp3 c3 ho => ⟨by rw [unhide HN]; exact heap_new W _, ho.later ((Below.refl _ _).alloc (Nat.le_refl _) _), Nat.zero_le _, unhide HR, by rw [unhide HN]; exact hf⟩)
  clear h hn b1
  go_enter Try.func32, Try.ntmps32
  go_wp2_with fail
  refine wp_region_held_drew (S := fun w' => w'.cell? ⟨R, 0, none⟩ = some (.int .i64 (room : Int)) ∧ w'.cell? ⟨R, 1, none⟩ = some (.slice sp n c)) (by kernel_rfl) ?_ (fun hHeld => ?_)
  · try dsimp only
    first | (have hV : G3 = G3 := rfl; clear hV; first | exact unhide SS _ (unhide G3) | exact unhide SS _ ((unhide G3).alloc (unhide G3).size _)) | exact ⟨c0, c1⟩ | exact unhide SS _ (unhide B1)
  refine held_take 0 (oi := { dst := some 5, op := Op.move (Operand.tmp 0), type := 25, pos := "ref.go:274", after := #[], guard := none }) (v := ?_) (by kernel_rfl) rfl (by rfl) (by kernel_rfl) (by kernel_rfl) (fun _ _ _ h => h) ?_ (by assumption) ?_
  rotate_left
  · (intro w hSw; (try dsimp only at hSw); go_simp; try with_reducible rfl)
  try simp only [Act.put, List.setIfInBounds_toArray, List.set_cons_zero, List.set_cons_succ]
  refine held_take 1 (oi := { dst := some 6, op := Op.nilCheck (Operand.tmp 5), type := 0, pos := "ref.go:274", after := #[{ on := 0, ground := Ground.data }], guard := none }) (v := ?_) (by kernel_rfl) rfl (by rfl) (by kernel_rfl) (by kernel_rfl) (fun _ _ _ h => h) ?_ (by assumption) ?_
  rotate_left
  · (intro w hSw; (try dsimp only at hSw); go_simp; try with_reducible rfl)
  try simp only [Act.put, List.setIfInBounds_toArray, List.set_cons_zero, List.set_cons_succ]
  refine held_take 2 (oi := { dst := some 7, op := Op.fieldAddr 68 (Operand.tmp 6) 0, type := 0, pos := "ref.go:274", after := #[{ on := 1, ground := Ground.data }], guard := none }) (v := ?_) (by kernel_rfl) rfl (by rfl) (by kernel_rfl) (by kernel_rfl) (fun _ _ _ h => h) ?_ (by assumption) ?_
  rotate_left
  · (intro w hSw; (try dsimp only at hSw); go_simp; try with_reducible rfl)
  try simp only [Act.put, List.setIfInBounds_toArray, List.set_cons_zero, List.set_cons_succ]
  refine held_take 3 (oi := { dst := some 8, op := Op.load 3 (Operand.tmp 7), type := 3, pos := "ref.go:274", after := #[{ on := 2, ground := Ground.data }], guard := none }) (v := ?_) (by kernel_rfl) rfl (by rfl) (by kernel_rfl) (by kernel_rfl) (fun _ _ _ h => h) ?_ (by assumption) ?_
  rotate_left
  · (intro w hSw; (try dsimp only at hSw); go_simp; try with_reducible rfl)
  try simp only [Act.put, List.setIfInBounds_toArray, List.set_cons_zero, List.set_cons_succ]
  refine held_take 5 (oi := { dst := some 10, op := Op.move (Operand.tmp 0), type := 25, pos := "ref.go:274", after := #[], guard := none }) (v := ?_) (by kernel_rfl) rfl (by rfl) (by kernel_rfl) (by kernel_rfl) (fun _ _ _ h => h) ?_ (by assumption) ?_
  rotate_left
  · (intro w hSw; (try dsimp only at hSw); go_simp; try with_reducible rfl)
  try simp only [Act.put, List.setIfInBounds_toArray, List.set_cons_zero, List.set_cons_succ]
  refine held_take 6 (oi := { dst := some 11, op := Op.nilCheck (Operand.tmp 10), type := 0, pos := "ref.go:274", after := #[{ on := 5, ground := Ground.data }], guard := none }) (v := ?_) (by kernel_rfl) rfl (by rfl) (by kernel_rfl) (by kernel_rfl) (fun _ _ _ h => h) ?_ (by assumption) ?_
  rotate_left
  · (intro w hSw; (try dsimp only at hSw); go_simp; try with_reducible rfl)
  try simp only [Act.put, List.setIfInBounds_toArray, List.set_cons_zero, List.set_cons_succ]
  refine held_take 7 (oi := { dst := some 12, op := Op.fieldAddr 68 (Operand.tmp 11) 1, type := 0, pos := "ref.go:274", after := #[{ on := 6, ground := Ground.data }], guard := none }) (v := ?_) (by kernel_rfl) rfl (by rfl) (by kernel_rfl) (by kernel_rfl) (fun _ _ _ h => h) ?_ (by assumption) ?_
  rotate_left
  · (intro w hSw; (try dsimp only at hSw); go_simp; try with_reducible rfl)
  try simp only [Act.put, List.setIfInBounds_toArray, List.set_cons_zero, List.set_cons_succ]
  refine held_take 8 (oi := { dst := some 13, op := Op.load 66 (Operand.tmp 12), type := 66, pos := "ref.go:274", after := #[{ on := 7, ground := Ground.data }], guard := none }) (v := ?_) (by kernel_rfl) rfl (by rfl) (by kernel_rfl) (by kernel_rfl) (fun _ _ _ h => h) ?_ (by assumption) ?_
  rotate_left
  · (intro w hSw; (try dsimp only at hSw); go_simp; try with_reducible rfl)
  try simp only [Act.put, List.setIfInBounds_toArray, List.set_cons_zero, List.set_cons_succ]
  refine held_one 4 (oi := { dst := some 9, op := Op.buildSlice 66 0 #[], type := 66, pos := "ref.go:274", after := #[], guard := none }) (by kernel_rfl) rfl (fun K hK => ?_)
  go_simp
  go_wp2_with fail
  refine hK.out _ _ ?_ (fun hHeld => ?_)
  · try dsimp only
    first | (have hV : G3 = G3 := rfl; clear hV; first | exact unhide SS _ (unhide G3) | exact unhide SS _ ((unhide G3).alloc (unhide G3).size _)) | exact ⟨c0, c1⟩ | exact unhide SS _ (unhide B1)
  clear hK K
  try simp only [Act.put, List.setIfInBounds_toArray, List.set_cons_zero, List.set_cons_succ]
  refine held_one 9 (oi := { dst := some 14, op := Op.call { callee := Callee.builtin Builtin.append, args := #[Operand.tmp 9, Operand.tmp 13], argTypes := #[66, 66] }, type := 66, pos := "ref.go:274", after := #[{ on := 4, ground := Ground.data }, { on := 8, ground := Ground.data }], guard := none }) (by kernel_rfl) rfl (fun K hK => ?_)
  first
    | (refine step_cloneR rfl (.tmp 9) (.tmp 13) rfl base sp n c rs w.heap.size rfl rfl (unhide HN) (unhide O1) (unhide E1) (by omega) ?_
       intro sp3 c3 W3 ho3 hl3 hg3
       have O3 := hide ho3
       have L3 := hide hl3
       have G3 := hide (show Below w.heap.size w W3 from (unhide B1).grown hg3 (unhide B1).size (fun g hg => by have := Option.some.inj hg; omega))
       clear ho3 hl3 hg3)
  refine hK.out _ _ ?_ (fun hHeld => ?_)
  · try dsimp only
    first | (have hV : G3 = G3 := rfl; clear hV; first | exact unhide SS _ (unhide G3) | exact unhide SS _ ((unhide G3).alloc (unhide G3).size _)) | exact ⟨c0, c1⟩ | exact unhide SS _ (unhide B1)
  clear hK K
  try simp only [Act.put, List.setIfInBounds_toArray, List.set_cons_zero, List.set_cons_succ]
  refine held_take 10 (oi := { dst := some 15, op := Op.build 68 #[(0, Operand.tmp 8), (1, Operand.tmp 14)], type := 68, pos := "ref.go:274", after := #[{ on := 3, ground := Ground.data }, { on := 9, ground := Ground.data }], guard := none }) (v := ?_) (by kernel_rfl) rfl (by rfl) (by kernel_rfl) (by kernel_rfl) (fun _ _ _ h => h) ?_ (by assumption) ?_
  rotate_left
  · (intro w hSw; (try dsimp only at hSw); go_simp; try with_reducible rfl)
  try simp only [Act.put, List.setIfInBounds_toArray, List.set_cons_zero, List.set_cons_succ]
  refine held_one 11 (oi := { dst := some 16, op := Op.box 68 (Operand.tmp 15), type := 25, pos := "ref.go:274", after := #[{ on := 10, ground := Ground.data }], guard := none }) (by kernel_rfl) rfl (fun K hK => ?_)
  go_simp
  go_wp2_with fail
  refine hK.out _ _ ?_ (fun hHeld => ?_)
  · try dsimp only
    first | (have hV : G3 = G3 := rfl; clear hV; first | exact unhide SS _ (unhide G3) | exact unhide SS _ ((unhide G3).alloc (unhide G3).size _)) | exact ⟨c0, c1⟩ | exact unhide SS _ (unhide B1)
  clear hK K
  try simp only [Act.put, List.setIfInBounds_toArray, List.set_cons_zero, List.set_cons_succ]
  refine held_take 12 (oi := { dst := some 2, op := Op.assign (Operand.tmp 16), type := 25, pos := "ref.go:274", after := #[{ on := 11, ground := Ground.data }, { on := 9, ground := Ground.chain }, { on := 0, ground := Ground.phase }, { on := 1, ground := Ground.phase }, { on := 2, ground := Ground.phase }, { on := 3, ground := Ground.phase }, { on := 4, ground := Ground.phase }, { on := 5, ground := Ground.phase }, { on := 6, ground := Ground.phase }, { on := 7, ground := Ground.phase }, { on := 8, ground := Ground.phase }, { on := 9, ground := Ground.phase }, { on := 10, ground := Ground.phase }, { on := 11, ground := Ground.phase }], guard := none }) (v := ?_) (by kernel_rfl) rfl (by rfl) (by kernel_rfl) (by kernel_rfl) (fun _ _ _ h => h) ?_ (by assumption) ?_
  rotate_left
  · (intro w hSw; (try dsimp only at hSw); go_simp; try with_reducible rfl)
  try simp only [Act.put, List.setIfInBounds_toArray, List.set_cons_zero, List.set_cons_succ]
  refine wpAnyH_done (by kernel_rfl) ?_ _
  have R4 := hide (unhide RF W3 sp3 c3 (unhide O3))
  have B4 := hide (show Below w.heap.size w (W3.alloc (.cells #[.int .i64 (room : Int), .slice sp3 n c3] 68)) from (unhide G3).alloc (unhide G3).size _)
  have S4 := hide (unhide G3).size
  go_wp2
  go_ret
  exact ⟨W3.heap.size, sp3, c3, rfl, unhide R4, unhide S4, unhide L3, unhide B4⟩
end Go.Proofs.Ytghdiemihceaoaa
