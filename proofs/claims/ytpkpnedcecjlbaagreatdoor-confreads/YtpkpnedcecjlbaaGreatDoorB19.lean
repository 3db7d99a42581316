/- Conf: a map's places, collected and sorted. -/
import Derived.Test.YtpkpnedcecjlbaaGreatDoorB18
import Derived.Test.YtpkpnedcecjlbaaGreatDoorB16
import Derived.Maps.AppendAt
import Derived.Shelf.SlIter.Nil
import Derived.Shelf.SortM.Plain
import Derived.Shelf.SortM.SortNone
import Derived.Ground.GgzProg
import Derived.Ground.SlgmProg
import Derived.Test.YtpkpnedcecjlbaaGreatDoorProg
section
namespace Go.Proofs.YtpkpnedcecjlbaaGreatDoor
open Go.ChangeShapes Go.WideShapes Go.ChangeAt Go.RowKit Go.Maps Go.Shelf Go.Sort
set_option linter.unusedVariables false

attribute [local go_sem] Oper.semAt_some
def plRow (p : Pl) : List Value := [.string p.1, .string p.2]
def rowsPl (l : List Pl) : List Value := l.flatMap plRow
theorem rowsPl_length (l : List Pl) : (rowsPl l).length = l.length * 2 := by
  induction l with
  | nil => rfl
  | cons x r ih =>
    show (plRow x ++ rowsPl r).length = _
    rw [List.length_append, ih, List.length_cons, show (plRow x).length = 2 from rfl]
    omega
theorem rowsPl_get : ∀ (xs : List Pl) (i f : Nat) (hi : i < xs.length) (_ : f < 2), (rowsPl xs)[i * 2 + f]? = (plRow xs[i])[f]?
  | x :: r, 0, f, _, hf => by
    show (plRow x ++ rowsPl r)[0 * 2 + f]? = _
    rw [List.getElem?_append_left (by rw [show (plRow x).length = 2 from rfl]; omega)]
    simp
  | x :: r, i + 1, f, hi, hf => by
    show (plRow x ++ rowsPl r)[(i + 1) * 2 + f]? = _
    have ih := rowsPl_get r i f (by simpa using hi) hf
    rw [List.getElem?_append_right (by rw [show (plRow x).length = 2 from rfl]; omega)]
    have e4 : (i + 1) * 2 + f - (plRow x).length = i * 2 + f := by rw [show (plRow x).length = 2 from rfl]; omega
    rw [e4]
    exact ih
theorem pl_oneCell (l : List Pl) : ∀ u ∈ rowsPl l, u.oneCell' = true := by
  intro u hu
  obtain ⟨t, _, ht⟩ := List.mem_flatMap.1 hu
  simp only [plRow, List.mem_cons, List.not_mem_nil, or_false] at ht
  rcases ht with rfl | rfl <;> rfl
theorem infoPl : (Tryz.prog.info? 98).map (fun i => (i.zero, i.size, i.bytes)) = some (some (.agg #[.string ByteArray.empty, .string ByteArray.empty]), 2, 32) := by kernel_rfl
def OwnPl (base : Nat) (w : World) (sp : Option Addr) (c : Nat) (l : List Pl) : Prop := w.ownsRow base 98 2 (.slice sp l.length c) l.length (rowsPl l)
theorem pkeys_stops (n : Nat) (hn : 1 ≤ n) (Bm b : Nat) {fs : List (Pl × Value)} (w : World) (hB : Bm < w.heap.size) (hm : w.cell? ⟨Bm, 0, none⟩ = some (.map (some b))) (hown : MapG kxP w b fs) :
    SeqStopsK Fence.wide n Tryz.prog 81 #[.pointer (some ⟨Bm, 0, none⟩)] encPl KeepsWalks (fun ks => ks.Perm (fs.map (·.1))) (fun _ => True) fs.length w := fun l J Jx W hW hJ _ hY h0 =>
  pkeys1_in n hn l Bm b J Jx W hJ hY ((hW.cell (p := ⟨Bm, 0, none⟩) hB).trans hm) (hown.later hW) h0
structure AppI (w0 : World) (Bs : Nat) (pre : List Pl) (W : World) : Prop where
  box : ∃ sp c, W.heap[Bs]? = some (.cells #[.slice sp pre.length c] 95 (0, 0)) ∧ OwnPl w0.heap.size W sp c pre
  bel : Below w0.heap.size w0 W
  big : w0.heap.size + 1 ≤ W.heap.size
theorem OwnPl.blk {base : Nat} {w : World} {sp : Option Addr} {c : Nat} {l : List Pl} (h : OwnPl base w sp c l) {g : Nat} (hg : (Value.slice sp l.length c).ownBlock = some g) : base ≤ g ∧ ∃ cur : Array Value, w.heap[g]? = some (.cells cur 98 (0, 0)) := by
  rcases h.2 with ⟨hv, h0⟩ | ⟨g', cap, cur, hv, hb, hh, _⟩
  · rw [hv] at hg; cases hg
  · rw [hv] at hg
    simp [Value.ownBlock] at hg
    subst hg
    exact ⟨hb, cur, hh⟩
theorem OwnPl.keep {base : Nat} {w w' : World} {sp : Option Addr} {c : Nat} {l : List Pl} (h : OwnPl base w sp c l) (hs : ∀ g, (Value.slice sp l.length c).ownBlock = some g → w'.heap[g]? = w.heap[g]?) : OwnPl base w' sp c l := by
  refine ⟨h.1, ?_⟩
  rcases h.2 with hv | ⟨g, cap, cur, hv, hb, hg, r⟩
  · exact .inl hv
  · exact .inr ⟨g, cap, cur, hv, hb, (hs g (by rw [hv]; rfl)).trans hg, r⟩
theorem tynePl : (98 : TypeId) ≠ 95 := by decide
/-- What is no cells' block and lies beyond changes none of it. -/
theorem AppI.kept {w0 W W' : World} {Bs : Nat} {pre : List Pl} {row : Option Nat} (h : AppI w0 Bs pre W) (hg : W.grownBy W' row) (hr : ∀ r, row = some r → w0.heap.size ≤ r ∧ ∃ o : Obj, W.heap[r]? = some o ∧ o.isCells = false) : AppI w0 Bs pre W' := by
  obtain ⟨sp, c, h1, h2⟩ := h.box
  refine ⟨⟨sp, c, (hg.block Bs (Array.getElem?_eq_some_iff.1 h1).1 (fun e => ?_)).trans h1, h2.keep (fun g hb => ?_)⟩, h.bel.grown hg h.bel.size (fun g e => (hr g e).1), Nat.le_trans h.big hg.size⟩
  · obtain ⟨_, o, ho, hc⟩ := hr Bs e.symm
    rw [h1] at ho; cases ho; cases hc
  · obtain ⟨_, cur, hh⟩ := h2.blk hb
    refine hg.block g (Array.getElem?_eq_some_iff.1 hh).1 (fun e => ?_)
    obtain ⟨_, o, ho, hc⟩ := hr g e.symm
    rw [hh] at ho; cases ho; cases hc
theorem wpListIn_ran {F : Fence} {n : Nat} {P : Program} {w w' : World} {ops : Array Oper} {rest : List Oper} {o : Oper} {a : Act} {Q : Exit → Act → World → Prop} (hg : o.guard = none) (s x : Operand) (t : TypeId)
    (hop : o.op = Op.call { callee := Callee.builtin Builtin.append, args := #[s, x], argTypes := #[t, t] }) {v u v' : Value} (hs : a.eval s = v) (hx : a.eval x = u) (hrun : (Builtin.append_ #[t, t] o.type #[v, u]).run P w = .ok v' w')
    (hK : wpListIn F n P ops Q rest (a.put o.dst v') w') : wpListIn F n P ops Q (o :: rest) a w := by
  refine wpListIn_plain hg fun K hK' => ?_
  unfold Oper.wpIn
  refine ⟨?_, ?_⟩
  · simp [Oper.about, hop, resolve, Target.leads, Sem.run_pure]
  · rw [Oper.semAt_plain F _ _ (by rw [hop]; intro c hc'; cases hc')]
    simp [execOp, hop, resolve, invoke, builtin, hs, hx, hrun, Result.andThen]
    exact hK' _ _ hK
set_option maxRecDepth 100000 in
set_option maxHeartbeats 8000000 in
theorem appendSeqP_calls {w : World} {fs : List (Pl × Value)} {b Bm : Nat} (hown : MapG kxP w b fs) (hB : Bm < w.heap.size) (hm : w.cell? ⟨Bm, 0, none⟩ = some (.map (some b))) (hl : fs.length ≤ 1000) :
    Calls Tryz.prog 99 #[.slice none 0 0, .func (.func 81) #[] #[.pointer (some ⟨Bm, 0, none⟩)]] w fun e w' => ∃ sp c ks, e = .returned (.slice sp ks.length c) ∧ ks.Perm (fs.map (·.1)) ∧ OwnPl w.heap.size w' sp c ks ∧ Below w.heap.size w w' := by
  have b0 := hide (show Below w.heap.size w (w.alloc (.cells #[.slice none 0 0] 95)) from (Below.refl _ _).alloc (Nat.le_refl _) _)
  have I0 := hide (show AppI w w.heap.size [] (w.alloc (.cells #[.slice none 0 0] 95)) from ⟨⟨none, 0, heap_new _ _, ⟨rfl, .inl ⟨rfl, rfl⟩⟩⟩, unhide b0, by simp⟩)
  have ST := hide (pkeys_stops 4 (by omega) Bm b (w.alloc (.cells #[.slice none 0 0] 95)) (by have := (unhide b0).size; omega) (cell_later (unhide b0) hm) (hown.later (unhide b0)))
  have hs0 := hide (show (w.alloc (.cells #[.slice none 0 0] 95)).heap.size = w.heap.size + 1 by simp)
  clear hown hm
  refine callsIn_wide.1 (callsIn_of_wp_marks (n := 5) Tryz.func99 rfl trivial (wpIn_wide.2 ?_) rfl)
  simp only [Tryz.ntmps99, List.size_toArray, List.length_cons, List.length_nil, Nat.reduceAdd, Nat.reduceSub, Array.replicate_succ, Array.replicate_zero, List.push_toArray, List.append_toArray, List.nil_append, List.cons_append]
  go_wp2_with fail
  refine (wpIn_wide (n := 5)).1 ?_
  generalize hW0 : w.alloc (.cells #[.slice none 0 0] 95) = W0 at *
  have hsz := unhide hs0
  refine wpIn_rangeFunc_ownH rfl (by omega) (gf := 81) (lb := #[.pointer (some ⟨Bm, 0, none⟩)]) rfl trivial (enters_of Tryz.func81 (by kernel_rfl) rfl)
    (unhide ST) (fun h k => h.trans k) (fun W l o o' h1 h2 h3 h4 => KeepsWalks.putObj o' h2 h4) (Below.refl _ _) (fun _ => rfl)
    (fun pre W => AppI w w.heap.size pre W) (fun _ _ _ => False) ?hI (fun _ _ _ _ _ hs _ _ => hs) (unhide I0)
    (fun x a' W => ∃ Bx, w.heap.size + 1 ≤ Bx ∧ W.heap[Bx]? = some (.cells #[.string x.1, .string x.2] 98 (0, 0)) ∧ a' = {
      tmps := #[Value.slice none 0 0, Value.func (Fn.func 81) #[] #[Value.pointer (some { block := Bm, off := 0 })],
        Value.pointer (some { block := w.heap.size, off := 0 }), undef, Value.slice none 0 0, Value.pointer (some { block := Bx, off := 0 }),
        Value.func (Fn.func 81) #[] #[Value.pointer (some { block := Bm, off := 0 })], .agg #[.string x.1, .string x.2], undef, undef, undef, undef, undef],
      defers := [] }) ?hAx ?assign ?body ?done ?stop
  case hI =>
    rintro s W W' row h hg hrow
    exact h.kept hg (fun r e => ⟨by have := (hrow r e).1; omega, (hrow r e).2⟩)
  case hAx =>
    rintro x a' s W W' row ⟨Bx, h1, h2, h3⟩ hg hrow
    refine ⟨Bx, h1, (hg.block Bx (Array.getElem?_eq_some_iff.1 h2).1 (fun e => ?_)).trans h2, h3⟩
    obtain ⟨_, o, ho, hc⟩ := hrow Bx e.symm
    rw [h2] at ho
    cases ho
    cases hc
  case assign =>
    rintro l0 pre x W K h hK
    simp only [encPl, plV]
    gi_wp2
    have ga := World.grownBy_alloc W (.cells #[.string x.1, .string x.2] 98) none
    exact hK _ _ ((KeepsOthers.alloc _ _).from _) (KeepsWalks.alloc _ _) (h.kept ga (fun r e => by cases e)) ⟨W.heap.size, h.big, heap_new _ _, rfl⟩
  case body =>
    rintro l0 pre x a' W hl0 ⟨r, hr⟩ h ⟨Bx, hBx, hX, rfl⟩ hlt
    obtain ⟨x1, x2⟩ := x
    obtain ⟨sp, c, hbox, hown⟩ := h.box
    have hbel := h.bel
    have hbig := h.big
    obtain ⟨i0, hi, hz0, hz1, hz2⟩ := info_parts infoPl
    have cB := box_cell hbox 0 _ rfl
    have cX := box_cell hX 0 _ rfl
    have cY := box_cell hX 1 _ rfl
    have ga := World.grownBy_alloc W (.cells #[.string x1, .string x2] 98) none
    have hown2 : OwnPl w.heap.size (W.alloc (.cells #[.string x1, .string x2] 98)) sp c pre := hown.keep (fun g hg => by
      obtain ⟨_, cur, hh⟩ := hown.blk hg
      exact ga.block g (Array.getElem?_eq_some_iff.1 hh).1 (by simp))
    obtain ⟨v', w3, hrun, h1, h2, h3⟩ := run_append_own (P := Tryz.prog) (W.alloc (.cells #[.string x1, .string x2] 98)) w.heap.size 95 95 98 i0 _ 2 32 Tryz.underlying95 hi hz0 hz1 hz2 rfl (by omega) _ _ _ hown2 ⟨W.heap.size, 0, none⟩ 1 1 (plRow (x1, x2)) rfl
      (fun j u hu => by
        rw [Addr.add_lit, Nat.zero_add, cell_of_row _ _ _ _ _ _ (heap_new W (.cells #[.string x1, .string x2] 98))]
        rw [← hu, ← Array.getElem?_toList]; rfl) (fun u hu => pl_oneCell [(x1, x2)] u (by simpa [rowsPl] using hu)) (by simp only [maxLen]; omega) (by omega) (by simp; omega)
    have hv : ∃ sp' c', v' = .slice sp' (pre.length + 1) c' := by
      rcases h1.2 with ⟨hv, h0⟩ | ⟨g, cap, cur, hv, _⟩
      · omega
      · exact ⟨_, _, hv⟩
    obtain ⟨sp', c', rfl⟩ := hv
    have hown3 : OwnPl w.heap.size w3 sp' c' (pre ++ [(x1, x2)]) := by
      unfold OwnPl
      rw [List.length_append, show rowsPl (pre ++ [(x1, x2)]) = rowsPl pre ++ plRow (x1, x2) from by simp [rowsPl]]
      exact h1
    have hneB : ∀ g, (Value.slice sp pre.length c).ownBlock = some g → g ≠ w.heap.size := fun g hg e => by
      obtain ⟨_, cur, hh⟩ := hown.blk hg
      rw [e, hbox] at hh
      simp at hh
    have hbox3 : w3.heap[w.heap.size]? = some (.cells #[.slice sp pre.length c] 95 (0, 0)) := (h2.block w.heap.size (by simp; omega) (fun e => hneB _ e.symm rfl)).trans ((ga.block _ (Array.getElem?_eq_some_iff.1 hbox).1 (by simp)).trans hbox)
    have cB3 := box_cell hbox3 0 _ rfl
    have fB3 := froz_of hbox3 0
    have hbel3 : Below w.heap.size w w3 := (hbel.grown ga hbel.size (fun k e => by cases e)).grown h2 (by have := hbel.size; simp; omega) (fun k e => (hown2.blk e).1)
    have K3 : KeepsOthers W w3 ∧ KeepsWalks W w3 := by
      have hc : ∀ (j : Nat) (o : Obj), (Value.slice sp pre.length c).ownBlock = some j → (W.alloc (.cells #[.string x1, .string x2] 98)).heap[j]? = some o → o.isCells = true ∧ o.isWalk = false := fun j o e ho => by
        obtain ⟨_, cur, hh⟩ := hown2.blk e
        rw [hh] at ho; cases ho; exact ⟨rfl, rfl⟩
      exact ⟨(KeepsOthers.alloc _ _).trans (KeepsOthers.of_grownBy h2 (fun j o e ho => (hc j o e ho).1)), (KeepsWalks.alloc _ _).trans (KeepsWalks.of_grownBy h2 (fun j o e ho => (hc j o e ho).2))⟩
    have hz3 : w.heap.size < w3.heap.size := (Array.getElem?_eq_some_iff.1 hbox3).1
    have FIN := hide (show KeepsFrom (w.heap.size + 1) W (w3.setCell ⟨w.heap.size, 0, none⟩ (.slice sp' (pre.length + 1) c')) ∧ KeepsWalks W (w3.setCell ⟨w.heap.size, 0, none⟩ (.slice sp' (pre.length + 1) c')) ∧ AppI w w.heap.size (pre ++ [(x1, x2)]) (w3.setCell ⟨w.heap.size, 0, none⟩ (.slice sp' (pre.length + 1) c')) from by
      have gs : w3.grownBy (w3.setCell ⟨w.heap.size, 0, none⟩ (.slice sp' (pre.length + 1) c')) (some w.heap.size) := grownSet w3 _ _ _
      refine ⟨(K3.1.trans (KeepsOthers.of_grownBy gs (fun j o e ho => by cases e; rw [hbox3] at ho; cases ho; rfl))).from _, K3.2.trans (KeepsWalks.setCell _ _ _), ⟨⟨sp', c', ?_, ?_⟩, ?_, ?_⟩⟩
      · have := heap_setCell_same w3 w.heap.size 0 _ _ (.slice sp' (pre.length + 1) c') hbox3
        rw [List.length_append]
        exact this
      · refine hown3.keep (fun g hg => gs.block g ?_ (fun e => ?_))
        · obtain ⟨_, cur, hh⟩ := hown3.blk hg
          exact (Array.getElem?_eq_some_iff.1 hh).1
        · obtain ⟨_, cur, hh⟩ := hown3.blk hg
          rw [Option.some.inj e, hbox3] at hh
          simp at hh
      · exact hbel3.grown gs hbel3.size (fun k e => by cases e; exact Nat.le_refl _)
      · have := gs.size; omega)
    clear hown hown2 hown3 h1 h2 h3 K3 hbel hbel3 hneB hi hz0 hz1 hz2 hbox hbox3 h ga
    dsimp only at cX cY ⊢
    have HR := hide hrun
    clear hrun
    gi_wp2_with (gi_at_builtin; refine wpListIn_ran rfl (.tmp 8) (.tmp 10) 95 rfl rfl rfl (unhide HR) ?_)
    exact unhide FIN
  case done =>
    rintro D xs W hD hS h hK
    obtain ⟨sp, c, hbox, hown⟩ := h.box
    have hbel := h.bel
    have cB := box_cell hbox 0 _ rfl
    go_wp2
    refine ⟨by simp, .inl ⟨_, _, rfl, run_takeDeferred hK, ?_⟩⟩
    refine ⟨_, results_tmp rfl _ _ _, sp, c, xs, rfl, hS, hown.keep (fun g hg => ?_), hbel.grown (grownBy_putObj' _ D _) hbel.size (fun g e => by have := Option.some.inj e; omega)⟩
    refine (grownBy_putObj' W D _).block g ?_ (fun e => ?_)
    · obtain ⟨_, cur, hh⟩ := hown.blk hg
      exact (Array.getElem?_eq_some_iff.1 hh).1
    · obtain ⟨_, cur, hh⟩ := hown.blk hg
      rw [Option.some.inj e, hK] at hh
      cases hh
  case stop =>
    intro D cc pre W _ _ h _
    exact h.elim
set_option maxHeartbeats 2000000 in
theorem collectP_calls {w : World} {fs : List (Pl × Value)} {b Bm : Nat} (hown : MapG kxP w b fs) (hB : Bm < w.heap.size) (hm : w.cell? ⟨Bm, 0, none⟩ = some (.map (some b))) (hl : fs.length ≤ 1000) :
    Calls Tryz.prog 79 #[.func (.func 81) #[] #[.pointer (some ⟨Bm, 0, none⟩)]] w fun e w' => ∃ sp c ks, e = .returned (.slice sp ks.length c) ∧ ks.Perm (fs.map (·.1)) ∧ OwnPl w.heap.size w' sp c ks ∧ Below w.heap.size w w' := by
  have AC := hide (appendSeqP_calls hown hB hm hl)
  go_enter Tryz.func79, Tryz.ntmps79
  go_wp2_with fail
  refine (unhide AC).mono ?_
  rintro e w' ⟨sp, c, ks, rfl, h1, h2, h3⟩
  go_wp2
  go_ret
  exact ⟨sp, c, ks, rfl, h1, h2, h3⟩
theorem keysP_calls (b : Nat) (w : World) : Calls Tryz.prog 52 #[.map (some b)] w fun e w' => e = .returned (.func (.func 81) #[] #[.pointer (some ⟨w.heap.size, 0, none⟩)]) ∧ w' = w.alloc (.cells #[.map (some b)] 83) := by
  go_enter Tryz.func52, Tryz.ntmps52
  go_wp2
  go_ret
  exact ⟨rfl, rfl⟩
theorem flat_rowsPl (fs : List Pl) : (flatK plRow 2 fs.toArray).toList = rowsPl fs := by
  apply List.ext_getElem?
  intro t
  by_cases ht : t < fs.length * 2
  · have h1 := rowsPl_get fs (t / 2) (t % 2) (by omega) (by omega)
    rw [show t / 2 * 2 + t % 2 = t by omega] at h1
    rw [h1, Array.getElem?_toList]
    have hs : t < (flatK plRow 2 fs.toArray).size := by rw [size_flatK]; simpa using ht
    rw [Array.getElem?_eq_getElem hs, ← getElem!_pos _ t hs, get_flatK _ _ _ _ (by simpa using ht)]
    have hd : (fs.toArray)[t / 2]! = fs[t / 2] := by rw [getElem!_pos _ _ (by simp; omega)]; simp
    rw [hd]
    have hf : t % 2 < (plRow fs[t / 2]).length := by show t % 2 < 2; omega
    rw [List.getElem?_eq_getElem hf]
    exact congrArg some (getElem!_pos (plRow fs[t / 2]) (t % 2) hf)
  · rw [List.getElem?_eq_none (by rw [Array.length_toList, size_flatK]; simp; omega), List.getElem?_eq_none (by rw [rowsPl_length]; omega)]
theorem cmpLaysP (blk off size : Nat) (w : World) : CmpLays Tryz.prog 53 #[] plRow 2 cmpS blk off size w := fun _ _ _ _ x y => closureP x y _
theorem sortedHeapP {w : World} {g n : Nat} {os : Array Obj} {cur : Array Value} {e : TypeId} {fr : Nat × Nat} (d : Array Value) (hb : w.heap[g]? = some (.cells cur e fr)) :
    (grow (putRow id (Sort.ahead w n) g 0 d) os).heap[g]? = some (.cells (putCells id 0 d cur) e fr) := by
  have hg : g < w.heap.size := (Array.getElem?_eq_some_iff.1 hb).1
  rw [heap_grow_old _ _ (by simpa using hg)]
  simp [putRow, mapBlock, Sort.ahead, Array.getElem?_modify, hb, onCells]
theorem sortedGrownP {w : World} {g n : Nat} {os : Array Obj} (d : Array Value) : w.grownBy (grow (putRow id (Sort.ahead w n) g 0 d) os) (some g) := by
  refine ⟨rfl, rfl, rfl, by simp, fun k hk hne => ?_⟩
  rw [heap_grow_old _ _ (by simpa using hk)]
  have : g ≠ k := fun e => hne (by rw [e])
  simp [putRow, mapBlock, Sort.ahead, Array.getElem?_modify, this]
theorem takePutP (cur : Array Value) (d : Array Value) (h : d.size ≤ cur.size) : (putCells id 0 d cur).toList.take d.size = d.toList := by
  apply List.ext_getElem?
  intro j
  by_cases hj : j < d.size
  · rw [List.getElem?_take_of_lt hj, Array.getElem?_toList, Array.getElem?_toList]
    simp [putCells, hj, show j < cur.size by omega]
  · rw [List.getElem?_take_eq_none (by omega), List.getElem?_eq_none (by simp; omega)]
end Go.Proofs.YtpkpnedcecjlbaaGreatDoor
end
/- Conf: a map's places, sorted. -/
section
namespace Go.Proofs.YtpkpnedcecjlbaaGreatDoor
open Go.ChangeShapes Go.WideShapes Go.ChangeAt Go.RowKit Go.Maps Go.Shelf Go.Sort
set_option linter.unusedVariables false

/-- slices.SortFunc on places of one's own. -/
theorem sortPl_calls {base : Nat} {V : World} {sp : Option Addr} {c : Nat} {fs : List Pl} (o : OwnPl base V sp c fs) (hl : fs.length ≤ 1000) (hb : base ≤ V.heap.size) :
    Calls Tryz.prog 80 #[.slice sp fs.length c, .func (.func 53) #[] #[]] V fun e w' => e = .returned (.tuple #[]) ∧ ∃ fs' : List Pl, fs'.Perm fs ∧ fs'.Pairwise (fun a b => ¬ Kord.lt b a) ∧ OwnPl base w' sp c fs' ∧ Below base V w' := by
  rcases o.2 with ⟨hv, h0⟩ | ⟨g, cap, cur, hv, hbg, hg, hle, hmx, hsz, ht⟩
  · simp only [Value.slice.injEq] at hv
    obtain ⟨rfl, hz, rfl⟩ := hv
    obtain rfl : fs = [] := List.eq_nil_of_length_eq_zero hz
    have hN := AnyF.slices_SortFunc_none (P := Tryz.prog) (ρ := Tryz.sortF80_ren) Tryz.sortF80 none 0 (.func (.func 53) #[] #[]) V
    refine Calls.mono (show Calls Tryz.prog 80 #[.slice none ([] : List Pl).length 0, .func (.func 53) #[] #[]] V _ from hN) ?_
    rintro e w' ⟨rfl, rfl⟩
    exact ⟨rfl, [], List.Perm.refl _, List.Pairwise.nil, ⟨rfl, .inl ⟨rfl, rfl⟩⟩, Below.refl _ _⟩
  · simp only [Value.slice.injEq] at hv
    obtain ⟨rfl, _, rfl⟩ := hv
    have hglt : g < V.heap.size := (Array.getElem?_eq_some_iff.1 hg).1
    have hH : HoldsK plRow 2 V g 0 fs.toArray := by
      intro j hj
      have hj' : j < fs.length * 2 := by rw [size_flatK] at hj; simpa using hj
      refine ⟨?_, by simp [World.frozen?, hg]⟩
      have h1 : (List.take (fs.length * 2) cur.toList)[j]? = (rowsPl fs)[j]? := by rw [ht]
      rw [List.getElem?_take_of_lt hj', Array.getElem?_toList] at h1
      have h2 : (flatK plRow 2 fs.toArray)[j]! = (flatK plRow 2 fs.toArray)[j] := getElem!_pos _ j hj
      have h3 : (flatK plRow 2 fs.toArray).toList[j]? = some (flatK plRow 2 fs.toArray)[j] := by rw [Array.getElem?_toList, Array.getElem?_eq_getElem hj]
      rw [flat_rowsPl, ← h1] at h3
      rw [Nat.zero_add, cell_of_row V g _ _ _ _ hg, h2]
      exact h3
    have hcon := AnyQ.slices_SortFunc (P := Tryz.prog) (ρ := Tryz.sortF80_ren) Tryz.sortF80 2 Tryz.isAgg98 Tryz.sizeOf98 plRow (fun _ => rfl) (fun x v hv => by simp [plRow] at hv; rcases hv with rfl | rfl <;> rfl) cmpS swoP 53 #[] g 0 c fs.toArray V (enters_of Tryz.func53 (by kernel_rfl) rfl) (cmpLaysP g 0 fs.toArray.size V) hH hglt (by simp; omega)
    refine Calls.mono (show Calls Tryz.prog 80 #[.slice (some ⟨g, 0, none⟩) fs.length c, .func (.func 53) #[] #[]] V _ from hcon) ?_
    rintro e w' ⟨rfl, d', n, os, hp, hs, rfl⟩
    have hdl : d'.size = fs.length := by have := hp.1; simpa using this
    refine ⟨rfl, d'.toList, ?_, ?_, ?_, ?_⟩
    · have h1 := hp.2.2
      have e1 : d'.extract 0 fs.toArray.size = d' := by rw [show fs.toArray.size = d'.size by rw [hdl]; simp]; exact Array.extract_size
      have e2 : fs.toArray.extract 0 fs.toArray.size = fs.toArray := Array.extract_size
      rw [e1, e2] at h1
      simpa using h1
    · rw [List.pairwise_iff_getElem]
      intro i j hi hj hij
      have h1 := hs i j (Nat.zero_le _) hij (by rw [show fs.toArray.size = d'.size by rw [hdl]; simp]; simpa using hj)
      rw [ltP] at h1
      have h2 := of_decide_eq_false h1
      rw [getElem!_pos d' i (by simpa using hi), getElem!_pos d' j (by simpa using hj)] at h2
      simpa only [Array.getElem_toList] using h2
    · have hfs : (flatK plRow 2 d').size = d'.size * 2 := size_flatK _ _ _
      have hfl : (flatK plRow 2 d').toList = rowsPl d'.toList := by
        have := flat_rowsPl d'.toList
        simpa using this
      refine ⟨by rw [rowsPl_length], .inr ⟨g, c, _, ?_, hbg, sortedHeapP (flatK plRow 2 d') hg, ?_, hmx, by simp [putCells, hsz], ?_⟩⟩
      · rw [Array.length_toList, hdl]
      · rw [Array.length_toList, hdl]; exact hle
      · rw [Array.length_toList, ← hfs, takePutP cur (flatK plRow 2 d') (by rw [hfs, hdl, hsz]; omega), hfl]
    · exact (Below.refl base V).grown (sortedGrownP (flatK plRow 2 d')) hb (fun g' hg' => by have := Option.some.inj hg'; omega)
theorem sorted_keys {κ α : Type} [Kord κ] {fs : List (κ × α)} (hr : Kr fs) {ks : List κ} (hp : ks.Perm (fs.map (·.1))) (hs : ks.Pairwise (fun a b => ¬ Kord.lt b a)) : ks = fs.map (·.1) := by
  refine List.Perm.eq_of_pairwise (le := fun a b => ¬ Kord.lt b a) (fun a b _ _ h1 h2 => ?_) hs ?_ hp
  · rcases Kord.tri a b with h | h | h
    · exact absurd h h2
    · exact h
    · exact absurd h h1
  · exact List.pairwise_map.2 (List.Pairwise.imp (fun {a b} h h' => Kord.irr _ (Kord.tr h h')) (show fs.Pairwise (fun x y => Kord.lt x.1 y.1) from hr))
set_option maxHeartbeats 2000000 in
/-- slices.SortedFunc(maps.Keys(m), comparePlaces): the places, as they rise. -/
theorem sortedP_calls {w : World} {fs : List (Pl × Value)} {b Bm : Nat} (hown : MapG kxP w b fs) (hB : Bm < w.heap.size) (hm : w.cell? ⟨Bm, 0, none⟩ = some (.map (some b))) (hl : fs.length ≤ 1000) :
    Calls Tryz.prog 51 #[.func (.func 81) #[] #[.pointer (some ⟨Bm, 0, none⟩)], .func (.func 53) #[] #[]] w fun e w' => ∃ sp c, e = .returned (.slice sp fs.length c) ∧ OwnPl w.heap.size w' sp c (fs.map (·.1)) ∧ Below w.heap.size w w' := by
  have AC := hide (collectP_calls hown hB hm hl)
  have hr := hide hown.rise
  clear hown hm
  go_enter Tryz.func51, Tryz.ntmps51
  go_wp2_with fail
  refine (unhide AC).mono ?_
  rintro e V ⟨sp, c, ks, rfl, h1, h2, h3⟩
  have hlen : ks.length = fs.length := by rw [h1.length_eq, List.length_map]
  have SC := hide (sortPl_calls h2 (by omega) h3.size)
  have H1 := hide h1
  have H3 := hide h3
  have HL := hide hlen
  clear h1 h2 h3 hlen
  go_wp2_with fail
  refine (unhide SC).mono ?_
  rintro e V2 ⟨rfl, ks2, p1, p2, p3, p4⟩
  have E := sorted_keys (unhide hr) (p1.trans (unhide H1)) p2
  subst E
  have P3 := hide p3
  have P4 := hide ((unhide H3).trans p4)
  clear p1 p2 p3 p4
  go_wp2
  go_ret
  exact ⟨sp, c, by rw [unhide HL]; rfl, unhide P3, unhide P4⟩
end Go.Proofs.YtpkpnedcecjlbaaGreatDoor
end
/- The keys of a map of names, sorted: contracts of the library's functions at this program's numbers. -/
section
namespace Go.Proofs
open Go.RowKit Go.Maps Go.Sort Go.Shelf
def Tryz.keys49_ren : Go.Shelf.Ren := ⟨fun | 7 => 49 | 10 => 77 | n => n, fun | 23 => 82 | 26 => 9 | 3 => 93 | 28 => 90 | 0 => 0 | 27 => 89 | 33 => 69 | 4 => 4 | n => n, fun | n => n⟩
theorem Tryz.keys49 : Go.Proofs.SlLaysZ.n7 Tryz.prog Tryz.keys49_ren := {
  mixed := by kernel_rfl
  f7 := ⟨Tryz.f49.name, by decide, Tryz.func49.trans (congrArg some (by kernel_rfl))⟩
  f10 := ⟨Tryz.f77.name, by decide, Tryz.func77.trans (congrArg some (by kernel_rfl))⟩
  t0 := Tryz.underlying0
  a0 := Tryz.isAgg0
  z0 := Tryz.sizeOf0
  v0 := Tryz.zeroValue0
  t4 := Tryz.underlying4
  a4 := Tryz.isAgg4
  z4 := Tryz.sizeOf4
  v4 := Tryz.zeroValue4
  t23 := Tryz.underlying82
  a23 := Tryz.isAgg82
  z23 := Tryz.sizeOf82
  v23 := Tryz.zeroValue82
  t26 := Tryz.underlying9
  a26 := Tryz.isAgg9
  z26 := Tryz.sizeOf9
  v26 := Tryz.zeroValue9
  t27 := Tryz.underlying89
  a27 := Tryz.isAgg89
  z27 := Tryz.sizeOf89
  v27 := Tryz.zeroValue89
  t28 := Tryz.underlying90
  a28 := Tryz.isAgg90
  z28 := Tryz.sizeOf90
  v28 := Tryz.zeroValue90
  t33 := Tryz.underlying69
  a33 := Tryz.isAgg69
  z33 := Tryz.sizeOf69
  v33 := Tryz.zeroValue69 }
def Tryz.sorted48_ren : Go.Shelf.Ren := ⟨fun | 6 => 48 | 8 => 75 | 9 => 76 | 11 => 96 | 13 => 98 | 12 => 97 | 23 => 120 | 24 => 121 | 14 => 111 | 15 => 112 | 16 => 113 | 17 => 114 | 18 => 115 | 19 => 116 | 20 => 117 | 21 => 118 | 22 => 119 | 25 => 137 | 26 => 138 | 27 => 139 | 28 => 140 | 29 => 141 | 30 => 101 | 31 => 150 | n => n, fun | 26 => 9 | 28 => 90 | 24 => 87 | 0 => 0 | 3 => 3 | 37 => 44 | 48 => 155 | 50 => 38 | 4 => 4 | 40 => 147 | 39 => 146 | 45 => 152 | 5 => 5 | 9 => 9 | 51 => 169 | 55 => 173 | 57 => 182 | 58 => 183 | 33 => 69 | n => n, fun | n => n⟩
theorem Tryz.sorted48 : Go.Proofs.SlLaysZ.n6 Tryz.prog Tryz.sorted48_ren := {
  mixed := by kernel_rfl
  f6 := ⟨Tryz.f48.name, by decide, Tryz.func48.trans (congrArg some (by kernel_rfl))⟩
  f8 := ⟨Tryz.f75.name, by decide, Tryz.func75.trans (congrArg some (by kernel_rfl))⟩
  f11 := ⟨Tryz.f96.name, by decide, Tryz.func96.trans (congrArg some (by kernel_rfl))⟩
  t0 := Tryz.underlying0
  a0 := Tryz.isAgg0
  z0 := Tryz.sizeOf0
  v0 := Tryz.zeroValue0
  t24 := Tryz.underlying87
  a24 := Tryz.isAgg87
  z24 := Tryz.sizeOf87
  v24 := Tryz.zeroValue87
  t26 := Tryz.underlying9
  a26 := Tryz.isAgg9
  z26 := Tryz.sizeOf9
  v26 := Tryz.zeroValue9
  t28 := Tryz.underlying90
  a28 := Tryz.isAgg90
  z28 := Tryz.sizeOf90
  v28 := Tryz.zeroValue90
  i26 := by kernel_rfl }
def Tryz.sort76_ren : Go.Shelf.Ren := ⟨fun | 6 => 76 | 8 => 98 | 9 => 97 | 19 => 120 | 20 => 121 | 21 => 111 | 22 => 112 | 23 => 113 | 24 => 114 | 25 => 115 | 26 => 116 | 27 => 117 | 28 => 118 | 29 => 119 | 36 => 137 | 31 => 138 | 32 => 139 | 37 => 140 | 38 => 141 | 39 => 101 | 41 => 150 | n => n, fun | 27 => 87 | 29 => 9 | 3 => 3 | 32 => 44 | 26 => 87 | 0 => 0 | 44 => 155 | 46 => 38 | 4 => 4 | 36 => 147 | 35 => 146 | 41 => 152 | 5 => 5 | 9 => 9 | 53 => 169 | 57 => 173 | 63 => 182 | 64 => 183 | n => n, fun | n => n⟩
theorem Tryz.sort76 : Go.Proofs.SlLaysM.n6 Tryz.prog Tryz.sort76_ren := {
  mixed := by kernel_rfl
  f6 := ⟨Tryz.f76.name, by decide, Tryz.func76.trans (congrArg some (by kernel_rfl))⟩
  f8 := Tryz.func98.trans (congrArg some (by kernel_rfl))
  f9 := ⟨Tryz.f97.name, by decide, Tryz.func97.trans (congrArg some (by kernel_rfl))⟩
  f19 := Tryz.func120.trans (congrArg some (by kernel_rfl))
  f20 := Tryz.func121.trans (congrArg some (by kernel_rfl))
  f21 := ⟨Tryz.f111.name, by decide, Tryz.func111.trans (congrArg some (by kernel_rfl))⟩
  f22 := ⟨Tryz.f112.name, by decide, Tryz.func112.trans (congrArg some (by kernel_rfl))⟩
  f23 := ⟨Tryz.f113.name, by decide, Tryz.func113.trans (congrArg some (by kernel_rfl))⟩
  f24 := ⟨Tryz.f114.name, by decide, Tryz.func114.trans (congrArg some (by kernel_rfl))⟩
  f25 := ⟨Tryz.f115.name, by decide, Tryz.func115.trans (congrArg some (by kernel_rfl))⟩
  f26 := ⟨Tryz.f116.name, by decide, Tryz.func116.trans (congrArg some (by kernel_rfl))⟩
  f27 := ⟨Tryz.f117.name, by decide, Tryz.func117.trans (congrArg some (by kernel_rfl))⟩
  f28 := ⟨Tryz.f118.name, by decide, Tryz.func118.trans (congrArg some (by kernel_rfl))⟩
  f29 := ⟨Tryz.f119.name, by decide, Tryz.func119.trans (congrArg some (by kernel_rfl))⟩
  f31 := Tryz.func138.trans (congrArg some (by kernel_rfl))
  f32 := Tryz.func139.trans (congrArg some (by kernel_rfl))
  f36 := ⟨Tryz.f137.name, by decide, Tryz.func137.trans (congrArg some (by kernel_rfl))⟩
  f37 := ⟨Tryz.f140.name, by decide, Tryz.func140.trans (congrArg some (by kernel_rfl))⟩
  f38 := ⟨Tryz.f141.name, by decide, Tryz.func141.trans (congrArg some (by kernel_rfl))⟩
  f39 := ⟨Tryz.f101.name, by decide, Tryz.func101.trans (congrArg some (by kernel_rfl))⟩
  f41 := ⟨Tryz.f150.name, by decide, Tryz.func150.trans (congrArg some (by kernel_rfl))⟩
  t0 := Tryz.underlying0
  a0 := Tryz.isAgg0
  z0 := Tryz.sizeOf0
  v0 := Tryz.zeroValue0
  t3 := Tryz.underlying3
  a3 := Tryz.isAgg3
  z3 := Tryz.sizeOf3
  v3 := Tryz.zeroValue3
  t4 := Tryz.underlying4
  a4 := Tryz.isAgg4
  z4 := Tryz.sizeOf4
  v4 := Tryz.zeroValue4
  t5 := Tryz.underlying5
  a5 := Tryz.isAgg5
  z5 := Tryz.sizeOf5
  v5 := Tryz.zeroValue5
  t9 := Tryz.underlying9
  a9 := Tryz.isAgg9
  z9 := Tryz.sizeOf9
  v9 := Tryz.zeroValue9
  t26 := Tryz.underlying87
  a26 := Tryz.isAgg87
  z26 := Tryz.sizeOf87
  v26 := Tryz.zeroValue87
  t27 := Tryz.underlying87
  a27 := Tryz.isAgg87
  z27 := Tryz.sizeOf87
  v27 := Tryz.zeroValue87
  t29 := Tryz.underlying9
  a29 := Tryz.isAgg9
  z29 := Tryz.sizeOf9
  v29 := Tryz.zeroValue9
  t32 := Tryz.underlying44
  a32 := Tryz.isAgg44
  z32 := Tryz.sizeOf44
  v32 := Tryz.zeroValue44
  t35 := Tryz.underlying146
  a35 := Tryz.isAgg146
  z35 := Tryz.sizeOf146
  v35 := Tryz.zeroValue146
  t36 := Tryz.underlying147
  a36 := Tryz.isAgg147
  z36 := Tryz.sizeOf147
  v36 := Tryz.zeroValue147
  t41 := Tryz.underlying152
  a41 := Tryz.isAgg152
  z41 := Tryz.sizeOf152
  v41 := Tryz.zeroValue152
  t44 := Tryz.underlying155
  a44 := Tryz.isAgg155
  z44 := Tryz.sizeOf155
  v44 := Tryz.zeroValue155
  t46 := Tryz.underlying38
  a46 := Tryz.isAgg38
  z46 := Tryz.sizeOf38
  v46 := Tryz.zeroValue38
  t53 := Tryz.underlying169
  a53 := Tryz.isAgg169
  z53 := Tryz.sizeOf169
  v53 := Tryz.zeroValue169
  t57 := Tryz.underlying173
  a57 := Tryz.isAgg173
  z57 := Tryz.sizeOf173
  v57 := Tryz.zeroValue173
  t63 := Tryz.underlying182
  a63 := Tryz.isAgg182
  z63 := Tryz.sizeOf182
  v63 := Tryz.zeroValue182
  t64 := Tryz.underlying183
  a64 := Tryz.isAgg183
  z64 := Tryz.sizeOf183
  v64 := Tryz.zeroValue183 }

theorem Tryz.sorts48 (m : Nat) : AnyZ.SortsIn Tryz.prog Tryz.sorted48_ren Fence.wide m :=
  ⟨fun blk off cap ss W hH hblk hsz => callsIn_wide.2 (AnyM.slices_Sort_string Tryz.sort76 blk off cap ss W hH hblk hsz),
   fun p cap W => callsIn_wide.2 (AnyM.slices_Sort_string_none Tryz.sort76 p cap W)⟩

theorem Tryz.maps_Keys_49 (mb : Option Nat) (W : World) : CallsIn Fence.wide 5 Tryz.prog 49 #[.map mb] W fun e w' => e = .returned (.func (.func 77) #[] #[.pointer (some ⟨W.heap.size, 0, none⟩)]) ∧ w' = W.alloc (.cells #[.map mb] 82) :=
  AnyZ.keys_in Tryz.keys49 Fence.wide 5 trivial rfl mb W

set_option maxHeartbeats 1000000 in
theorem Tryz.slices_Sorted_keys_48_49 {H : Type} (b nn : Nat) (D0 : DataW H) (R : Value → Option (DataW H × List MemPlace)) (w : World) (hown : w.ownsMap Tryz.prog 9 R b nn D0) (hmax : Maps.size D0 ≤ maxLen) (hbytes : Maps.size D0 * 16 ≤ 140737488355328) :
    CallsIn Fence.wide 5 Tryz.prog 48 #[.func (.func 77) #[] #[.pointer (some ⟨w.heap.size, 0, none⟩)]] (w.alloc (.cells #[.map (some b)] 82)) fun e w' => ∃ (v : Value) (ss : List (List UInt8)), e = .returned v ∧ ss.Perm (strKeys D0) ∧
      w'.ownsRow (w.alloc (.cells #[.map (some b)] 82)).heap.size 9 1 v ss.length ((ss.mergeSort (fun x y => decide (x ≤ y))).map encStr) ∧ (v = .slice none 0 0 ↔ ss = []) ∧ Below (w.alloc (.cells #[.map (some b)] 82)).heap.size (w.alloc (.cells #[.map (some b)] 82)) w' := by
  have hbl := hown.lt
  have hseq : SeqGives Fence.wide 2 Tryz.prog 77 #[.pointer (some ⟨w.heap.size, 0, none⟩)] encStr (fun ss => ss.Perm (strKeys D0)) (Maps.size D0) (w.alloc (.cells #[.map (some b)] 82)) :=
    AnyZ.keys_gives (ρ := Tryz.keys49_ren) { Tryz.keys49 with } Fence.wide _ trivial rfl (by omega) w.heap.size b nn D0 _ (by simp) (by simp) (by
      obtain ⟨es, clock, hb, Ft, hs, hD⟩ := hown
      exact ⟨es, clock, (Below.heap_alloc _ _ b hbl).trans hb, Ft, hs, hD⟩)
  exact AnyZ.sorted_in Tryz.sorted48 Fence.wide 5 trivial trivial trivial trivial rfl (by omega) (Tryz.sorts48 _) (enters_of Tryz.func76 (by kernel_rfl) rfl) 77 #[.pointer (some ⟨w.heap.size, 0, none⟩)] trivial (enters_of Tryz.func77 (by kernel_rfl) rfl) _ _ hmax hbytes _ hseq

set_option maxHeartbeats 1000000 in
theorem Tryz.slices_Sorted_keys_nil_48_49 (w : World) :
    CallsIn Fence.wide 5 Tryz.prog 48 #[.func (.func 77) #[] #[.pointer (some ⟨w.heap.size, 0, none⟩)]] (w.alloc (.cells #[.map none] 82)) fun e w' => ∃ (v : Value) (ss : List (List UInt8)), e = .returned v ∧ ss = [] ∧
      w'.ownsRow (w.alloc (.cells #[.map none] 82)).heap.size 9 1 v ss.length ((ss.mergeSort (fun x y => decide (x ≤ y))).map encStr) ∧ (v = .slice none 0 0 ↔ ss = []) ∧ Below (w.alloc (.cells #[.map none] 82)).heap.size (w.alloc (.cells #[.map none] 82)) w' := by
  have hseq : SeqGives Fence.wide 2 Tryz.prog 77 #[.pointer (some ⟨w.heap.size, 0, none⟩)] encStr (fun ss : List (List UInt8) => ss = []) 0 (w.alloc (.cells #[.map none] 82)) :=
    AnyZ.keys_gives_nil (ρ := Tryz.keys49_ren) { Tryz.keys49 with } Fence.wide _ trivial rfl w.heap.size _ (by simp) (by simp)
  exact AnyZ.sorted_in Tryz.sorted48 Fence.wide 5 trivial trivial trivial trivial rfl (by omega) (Tryz.sorts48 _) (enters_of Tryz.func76 (by kernel_rfl) rfl) 77 #[.pointer (some ⟨w.heap.size, 0, none⟩)] trivial (enters_of Tryz.func77 (by kernel_rfl) rfl) _ 0 (Nat.zero_le _) (by omega) _ hseq


end Go.Proofs
end
