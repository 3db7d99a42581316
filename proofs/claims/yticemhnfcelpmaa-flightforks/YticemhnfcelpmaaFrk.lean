/- Flight: Fork, the program's and the document's. -/
import Derived.Test.YticemhnfcelpmaaFl11
import Derived.Test.YticemhnfcelpmaaRf4
import Derived.Shelf.SlMaps.Clone
import Derived.Laws.Rows
import Derived.Laws.Tables
import Derived.Laws.OwnMore
import Derived.Deep.RegionHeld3
import Derived.Deep.MidRow
namespace Go.Proofs.Yticemhnfcelpmaa
open Go.ChangeShapes Go.WideShapes Go.ChangeAt Go.RowKit Go.Maps

set_option maxHeartbeats 2000000 in
theorem cloneMap_calls (b : Nat) (es : Array MapEntry) (clock : Nat) (w : World) (hb : w.heap[b]? = some (.map es clock)) :
    Calls Try.prog 29 #[.map (some b)] w fun e w' => e = .returned (.map (some w.heap.size)) ∧ w' = w.alloc (.map es clock) := by
  have hq := fun w => run_eql_map_nil_sl (P := Try.prog) w 50 _ _ (some b) Try.underlying50
  go_enter Try.func29, Try.ntmps29
  go_wp2
  rw [run_callFunc_extern Try.func47 (by kernel_rfl) (by kernel_rfl) (by kernel_rfl) (e := Extern.MapsClone.clone) (by kernel_rfl), run_maps_clone_sl w 50 hb]
  simp only [Result.andThen]
  rw [Oper.upon_value]
  go_wp2
  rw [run_typeAssert_map_sl _ 50 _ _ _ _ Try.underlying50]
  simp only [Result.andThen]
  rw [Oper.upon_value]
  go_wp2
  go_ret
  exact ⟨rfl, rfl⟩
theorem list9 {α : Type} {l : List α} (h : l.length = 9) : ∃ c0 c1 c2 c3 c4 c5 c6 c7 c8, l = [c0, c1, c2, c3, c4, c5, c6, c7, c8] := by
  match l, h with
  | [c0, c1, c2, c3, c4, c5, c6, c7, c8], _ => exact ⟨c0, c1, c2, c3, c4, c5, c6, c7, c8, rfl⟩
section
variable {base : Nat} {w : World} {N M n : Nat} {sp : Option Addr} {c : Nat} {xs : List (Pkt × Hdl)} {last : Int} {S : Int → Int → Bool} {ck : List Int}
set_option maxRecDepth 20000 in
set_option maxHeartbeats 4000000 in
theorem fork_calls (h : NetAt base w N M n sp c xs last S ck) (hx : xs.length ≤ 1000) (hbl : ∀ x ∈ xs, x.1.2.2.2.length ≤ 140737488355328) :
    Calls Try.prog 15 #[.pointer (some ⟨N, 0, none⟩)] w fun e w' => ∃ N' M' sp' c' ys, e = .returned (.pointer (some ⟨N', 0, none⟩)) ∧ ys.map (·.1) = xs.map (·.1) ∧ NetAt w.heap.size w' N' M' n sp' c' ys last S ck ∧ Below w.heap.size w w' := by
  obtain ⟨k0, k1, k2, k3, k4, k5, k6, k7, k8, rfl⟩ := list9 h.nine
  have c1 := h.c1
  have c2 := h.c2
  have dr : w.rangeAt N 3 [.int .i64 k0, .int .i64 k1, .int .i64 k2, .int .i64 k3, .int .i64 k4, .int .i64 k5, .int .i64 k6, .int .i64 k7, .int .i64 k8] := fun j v hv => by
    match j, hv with
    | 0, hv => cases hv; exact h.ck 0 (by omega)
    | 1, hv => cases hv; exact h.ck 1 (by omega)
    | 2, hv => cases hv; exact h.ck 2 (by omega)
    | 3, hv => cases hv; exact h.ck 3 (by omega)
    | 4, hv => cases hv; exact h.ck 4 (by omega)
    | 5, hv => cases hv; exact h.ck 5 (by omega)
    | 6, hv => cases hv; exact h.ck 6 (by omega)
    | 7, hv => cases hv; exact h.ck 7 (by omega)
    | 8, hv => cases hv; exact h.ck 8 (by omega)
    | j + 9, hv => simp at hv
  have hu9 := Try.underlying51
  have hi9 : (Try.prog.info? 51).map (·.size) = some ([.int .i64 k0, .int .i64 k1, .int .i64 k2, .int .i64 k3, .int .i64 k4, .int .i64 k5, .int .i64 k6, .int .i64 k7, .int .i64 k8] : List Value).length := by kernel_rfl
  obtain ⟨D, ⟨es, clock, hM, hF⟩, hS⟩ := h.map
  have HM := hide hM
  have HMD := hide (show ∀ W : World, W.heap[W.heap.size - 1]? = some (.map es clock) → ∃ D : DataW Unit, W.ownsMap Try.prog 56 unitElem (W.heap.size - 1) n D ∧ ∀ f t, In64 f → In64 t → Maps.has D (lk f t) = S f t from fun W hW => ⟨D, ⟨es, clock, hW, hF⟩, hS⟩)
  have HMQ := hide (show ∀ (W : World) (q : Nat), W.heap[q]? = some (.map es clock) → ∃ D : DataW Unit, W.ownsMap Try.prog 56 unitElem q n D ∧ ∀ f t, In64 f → In64 t → Maps.has D (lk f t) = S f t from fun W q hW => ⟨D, ⟨es, clock, hW, hF⟩, hS⟩)
  have H := hide h
  have HD := hide (show NetAt base w.drew N M n sp c xs last S [k0, k1, k2, k3, k4, k5, k6, k7, k8] from ⟨h.blk, h.own.drew, ⟨D, ⟨es, clock, hM, hF⟩, hS⟩, h.lowN, h.lowM, h.nine⟩)
  have HB := hide hbl
  clear h hM hF hS HMD hbl
  go_enter Try.func15, Try.ntmps15
  go_wp2_with fail
  go_region_held3 (fun w' => w'.cell? ⟨N, 1, none⟩ = some (.int .i64 last) ∧ w'.cell? ⟨N, 2, none⟩ = some (.map (some M)) ∧ w'.rangeAt N 3 [.int .i64 k0, .int .i64 k1, .int .i64 k2, .int .i64 k3, .int .i64 k4, .int .i64 k5, .int .i64 k6, .int .i64 k7, .int .i64 k8])
    (first
      | exact ⟨c1, c2, dr⟩
      | exact ⟨cell_later (unhide (by assumption : Hid (Below w.heap.size w _))) c1, cell_later (unhide (by assumption : Hid (Below w.heap.size w _))) c2, fun j v hv => cell_later (unhide (by assumption : Hid (Below w.heap.size w _))) (dr j v hv)⟩
      | exact ⟨cell_later ((unhide B2).alloc (unhide B2).size _) c1, cell_later ((unhide B2).alloc (unhide B2).size _) c2, fun j v hv => cell_later ((unhide B2).alloc (unhide B2).size _) (dr j v hv)⟩)
    (first
      | (go_at_call 10; refine (under_calls (by first | exact unhide H | exact unhide HD) hx (unhide HB)).mono ?_; rintro e W1 ⟨us, uc, ys, rfl, hys, hU, hb1⟩; have YS := hide hys; have S1 := hide (show w.heap.size ≤ W1.heap.size from hb1.size); have U1 := hide (show OwnP w.heap.size W1.heap.size W1 us uc ys from hU); have B1 := hide (show Below w.heap.size w W1 from ⟨hb1.os, hb1.tape, hb1.output, hb1.size, hb1.block⟩); clear hb1 hU hys)
      | (go_at_call 29; refine (cloneMap_calls M es clock _ (by exact later_block (unhide B1) (unhide HM))).mono ?_; rintro e W2 ⟨rfl, rfl⟩; have B2 := hide (show Below w.heap.size w (W1.alloc (.map es clock)) from (unhide B1).alloc (unhide B1).size _); clear B1))
  have b3 : Below (W1.alloc (.map es clock)).heap.size (W1.alloc (.map es clock)) ((W1.alloc (.map es clock)).alloc (.cells #[.slice us xs.length uc, .int .i64 last, .map (some W1.heap.size), .int .i64 k0, .int .i64 k1, .int .i64 k2, .int .i64 k3, .int .i64 k4, .int .i64 k5, .int .i64 k6, .int .i64 k7, .int .i64 k8] 53)) := (Below.refl _ _).alloc (Nat.le_refl _) _
  have bm : Below W1.heap.size W1 (W1.alloc (.map es clock)) := (Below.refl _ _).alloc (Nat.le_refl _) _
  have B3 := hide ((unhide B2).trans (b3.mono (unhide B2).size))
  have sm : (W1.alloc (.map es clock)).heap.size = W1.heap.size + 1 := by simp
  have hl : ys.length = xs.length := by have := congrArg List.length (unhide YS); simpa using this
  have hW1 : w.heap.size ≤ W1.heap.size := unhide S1
  have NT := hide (show NetAt w.heap.size ((W1.alloc (.map es clock)).alloc (.cells #[.slice us xs.length uc, .int .i64 last, .map (some W1.heap.size), .int .i64 k0, .int .i64 k1, .int .i64 k2, .int .i64 k3, .int .i64 k4, .int .i64 k5, .int .i64 k6, .int .i64 k7, .int .i64 k8] 53)) (W1.heap.size + 1) W1.heap.size n us uc ys last S [k0, k1, k2, k3, k4, k5, k6, k7, k8] from
    ⟨by rw [hl]; exact sm ▸ heap_new (W1.alloc (.map es clock)) (.cells #[.slice us xs.length uc, .int .i64 last, .map (some W1.heap.size), .int .i64 k0, .int .i64 k1, .int .i64 k2, .int .i64 k3, .int .i64 k4, .int .i64 k5, .int .i64 k6, .int .i64 k7, .int .i64 k8] 53), (((unhide U1).later bm).later b3).tight, unhide HMQ _ _ (later_block b3 (heap_new W1 (.map es clock))), by omega, hW1, rfl⟩)
  clear b3 bm sm hl hW1
  go_wp2
  go_ret
  exact ⟨W1.heap.size + 1, W1.heap.size, us, uc, ys, rfl, unhide YS, unhide NT, unhide B3⟩
end
section
variable {base : Nat} {w : World} {R : Nat} {sp : Option Addr} {c : Nat} {zs : List SPk} {pa : List Bool} {ck : List Int}
theorem infoSF : (Try.prog.info? 77).map (fun i => (i.zero, i.size, i.bytes)) = some (some (.agg #[.int .i64 0, .int .i64 0, .int .i64 0, .slice none 0 0, .bool false]), 5, 56) := by kernel_rfl
theorem sRow_one (x : SPk) : ∀ u ∈ sRow x, u.oneCell' = true := by
  intro u hu
  simp only [sRow, pkRow, List.cons_append, List.nil_append, List.mem_cons, List.not_mem_nil, or_false] at hu
  rcases hu with rfl | rfl | rfl | rfl | rfl <;> rfl
/-- All of a row of packets behind an empty one. -/
theorem wpList_appendAllS {w0 : World} {ops : Array Oper} {rest : List Oper} {o : Oper} {a : Act} {Q : Exit → Act → World → Prop} (hgd : o.guard = none) (s x : Operand)
    (ho : o.op = .call { callee := .builtin .append, args := #[s, x], argTypes := #[66, 66] })
    (E : Nat) (hs : a.eval s = .slice (some ⟨E, 0, none⟩) 0 0) (hE : w0.heap[E]? = some (.cells #[] 77 (0, 0))) (b0 : Nat) (hb0 : b0 ≤ E) (n : Nat) (hx : a.eval x = .slice sp n c) (hn : zs.length = n) (hown : OwnS base w0 sp c zs) (hlen : n ≤ 1048576)
    (hk : ∀ sp' c' w', OwnS b0 w' sp' c' zs → Below b0 w0 w' → wpList Try.prog ops Q rest (a.put o.dst (.slice sp' n c')) w') :
    wpList Try.prog ops Q (o :: rest) a w0 := by
  subst hn
  refine wpList_plain hgd fun K hK => ?_
  obtain ⟨i0, hi, hz0, hz1, hz2⟩ := info_parts infoSF
  have hEo : w0.ownsRow b0 77 5 (.slice (some ⟨E, 0, none⟩) 0 0) 0 [] := ⟨rfl, .inr ⟨E, 0, #[], rfl, hb0, hE, Nat.le_refl _, by simp [maxLen], rfl, rfl⟩⟩
  have hEl := (Array.getElem?_eq_some_iff.1 hE).1
  rcases hown.row.2 with ⟨hv, h0⟩ | ⟨g, cap, cur, hv, hbg, hg, hle, hmx, hsz, ht⟩
  · simp only [Value.slice.injEq] at hv
    obtain ⟨rfl, _, rfl⟩ := hv
    have hz : zs = [] := List.eq_nil_of_length_eq_zero h0
    subst hz
    have hrun := run_append_owned_none (P := Try.prog) (w := w0) b0 66 o.type 77 i0 5 Try.underlying66 hi _ _ _ hEo
    unfold Oper.wp
    simp [execOp, ho, resolve, invoke, builtin, hs, hx, hrun, Result.andThen]
    exact hK _ _ (hk (some ⟨E, 0, none⟩) 0 w0 ⟨hEo, by simp⟩ (Below.refl _ _))
  · simp only [Value.slice.injEq] at hv
    obtain ⟨rfl, _, rfl⟩ := hv
    obtain ⟨v', w', hrun, h1, h2, _, h5⟩ := run_append_own_at (P := Try.prog) w0 b0 66 o.type 77 i0 _ 5 56 Try.underlying66 hi hz0 hz1 hz2 rfl (by omega) _ _ _ hEo ⟨g, 0, none⟩ zs.length c (rowsS zs) (rowsS_length zs)
      (fun j u hu => by
        rw [Addr.add_lit, Nat.zero_add, cell_of_row w0 g j cur _ _ hg]
        have hj : j < zs.length * 5 := by rw [← rowsS_length]; exact (List.getElem?_eq_some_iff.1 hu).1
        rw [← ht, List.getElem?_take, if_pos hj] at hu
        rw [← Array.getElem?_toList]
        exact hu) (by
        intro u hu
        obtain ⟨z, _, hz⟩ := List.mem_flatMap.1 hu
        exact sRow_one z u hz) (by simp only [maxLen]; omega) (by omega) (by omega)
    have hv : ∃ sp' c', v' = .slice sp' zs.length c' := by
      rcases h1.2 with ⟨hv, h0⟩ | ⟨g1, cap, cur, hv, _⟩
      · exact ⟨none, 0, by rw [hv]; simp; omega⟩
      · exact ⟨_, _, by rw [hv, Nat.zero_add]⟩
    obtain ⟨sp', c', rfl⟩ := hv
    rw [ownBlock_slice] at h2
    rw [List.nil_append, Nat.zero_add] at h1
    unfold Oper.wp
    simp [execOp, ho, resolve, invoke, builtin, hs, hx, hrun, Result.andThen]
    refine hK _ _ (hk sp' c' w' ⟨h1, fun z hz => (hown.dat z hz).grownNe h2 (fun x hx' e => ?_)⟩ ((Below.refl b0 w0).grown h2 (by omega) (fun j hj => ?_)))
    · have : E = x := by simpa [blk] using e
      subst this
      exact (hown.dat z hz).ne_block hE (by decide) hx'
    · have : E = j := by simpa [blk] using hj
      omega
abbrev rC (sp : Option Addr) (n c : Nat) (pa : List Bool) (ck : List Int) : Array Value := (.slice sp n c :: (pa.map Value.bool ++ ck.map (Value.int .i64))).toArray
theorem rC_size (sp : Option Addr) (n c : Nat) {pa : List Bool} {ck : List Int} (h1 : pa.length = 100) (h2 : ck.length = 10) : (rC sp n c pa ck).size = 111 := by simp [rC, h1, h2]
theorem rC_one (sp : Option Addr) (n c : Nat) (pa : List Bool) (ck : List Int) : (rC sp n c pa ck).all (·.oneCell') = true := by
  rw [Array.all_eq_true_iff_forall_mem]
  intro v hv
  have hv' : v ∈ (.slice sp n c :: (pa.map Value.bool ++ ck.map (Value.int .i64)) : List Value) := by simpa using hv
  rcases List.mem_cons.1 hv' with rfl | h
  · rfl
  · rcases List.mem_append.1 h with h | h
    · obtain ⟨b, _, rfl⟩ := List.mem_map.1 h; rfl
    · obtain ⟨b, _, rfl⟩ := List.mem_map.1 h; rfl
set_option maxRecDepth 20000 in
set_option maxHeartbeats 4000000 in
theorem refFork_calls (h : RefAt base w R sp c zs pa ck) (hz : zs.length ≤ 1000) :
    Calls Try.prog 16 #[.pointer (some ⟨R, 0, none⟩)] w fun e w' => ∃ R' sp' c', e = .returned (.pointer (some ⟨R', 0, none⟩)) ∧ RefAt w.heap.size w' R' sp' c' zs pa ck ∧ Below w.heap.size w w' := by
  have H := hide h
  have hi : (Try.prog.info? 70).map (·.size) = some (rC sp zs.length c pa ck).size := by rw [rC_size _ _ _ h.hundred h.ten]; kernel_rfl
  have HI := hide hi
  have b1 := hide (show Below w.heap.size w (w.alloc (.cells refZ 70)) from (Below.refl _ _).alloc (Nat.le_refl _) _)
  have X1 := hide (heap_new w (.cells refZ 70))
  have hzr := zeroRef
  have hsz : refZ.size = (rC sp zs.length c pa ck).size := by rw [rC_size _ _ _ h.hundred h.ten]; rfl
  have HSZ := hide hsz
  have bs := below_setRow (unhide b1) (Nat.le_refl _) (rC sp zs.length c pa ck)
  have bV := hide (show Below w.heap.size w (((w.alloc (.cells refZ 70)).setRow w.heap.size (rC sp zs.length c pa ck)).alloc (.cells #[] 77)) from bs.alloc bs.size _)
  have bE : Below ((w.alloc (.cells refZ 70)).setRow w.heap.size (rC sp zs.length c pa ck)).heap.size ((w.alloc (.cells refZ 70)).setRow w.heap.size (rC sp zs.length c pa ck)) (((w.alloc (.cells refZ 70)).setRow w.heap.size (rC sp zs.length c pa ck)).alloc (.cells #[] 77)) := (Below.refl _ _).alloc (Nat.le_refl _) _
  have sS : ((w.alloc (.cells refZ 70)).setRow w.heap.size (rC sp zs.length c pa ck)).heap.size = w.heap.size + 1 := by simp
  have XS := hide (later_block bE (setRow_heap (w.alloc (.cells refZ 70)) w.heap.size refZ (rC sp zs.length c pa ck) 70 (0, 0) (unhide X1)))
  have XE := hide (show (((w.alloc (.cells refZ 70)).setRow w.heap.size (rC sp zs.length c pa ck)).alloc (.cells #[] 77)).heap[w.heap.size + 1]? = some (.cells #[] 77 (0, 0)) from sS ▸ heap_new _ _)
  have HV := hide (h.later (unhide bV))
  have v0 := (unhide HV).c0
  clear h hi hsz bs bE sS
  go_enter Try.func16, Try.ntmps16
  go_wp2_with (first
    | (refine wpList_load_row rfl 70 (.tmp 7) rfl R rfl _ (rC sp zs.length c pa ck) _ _ (unhide H).blk Try.underlying70 rfl (unhide HI) ?_)
    | (refine wpList_store_row rfl 70 (.tmp 3) (.tmp 8) rfl w.heap.size (rC sp zs.length c pa ck) rfl rfl _ refZ (unhide X1) (unhide HI) (unhide HSZ) (rC_one _ _ _ _ _) ?_)
    | (at_builtin; refine wpList_appendAllS rfl (.tmp 9) (.tmp 13) rfl (w.heap.size + 1) rfl (by exact unhide XE) (w.heap.size + 1) (Nat.le_refl _) zs.length rfl rfl (by exact (unhide HV).own) (by omega) ?_
       intro sp3 c3 W3 ho3 hb3
       have O3 := hide ho3
       have X3 := hide ((hb3.block w.heap.size (by omega)).trans (unhide XS))
       have B3 := hide ((unhide bV).trans (hb3.mono (by omega)))
       have y0 : W3.cell? ⟨w.heap.size, 0, none⟩ = some (.slice sp zs.length c) := box_cell (unhide X3) 0 _ (by simp)
       have f0 := box_free (unhide X3) 0
       clear ho3 hb3))
  have gs := grown_set W3 w.heap.size 0 (.slice sp3 zs.length c3)
  have X4 := hide (heap_setCell_same W3 w.heap.size 0 _ 70 (.slice sp3 zs.length c3) (unhide X3))
  have O4 := hide ((unhide O3).far gs (unhide X3) (by decide) (by decide))
  have B4 := hide ((unhide B3).grown gs (unhide B3).size (fun g hg => Nat.le_of_eq (Option.some.inj hg)))
  clear gs
  go_wp2
  go_ret
  exact ⟨w.heap.size, sp3, c3, rfl, ⟨by rw [unhide X4]; simp [rC], ⟨ownsRow_mono (unhide O4).row (by omega), (unhide O4).dat⟩, Nat.le_refl _, (unhide H).hundred, (unhide H).ten⟩, unhide B4⟩
end
end Go.Proofs.Yticemhnfcelpmaa
