/- The document's disk: find, put, without. -/
import Derived.Test.YtagncghpfdjkmaaGreatDoorB31
import Derived.Sort.Walk0
namespace Go.Proofs.YtagncghpfdjkmaaGreatDoor
open Go.ChangeShapes Go.WideShapes Go.ChangeAt Go.RowKit Go.Maps

theorem rf_oneCell (x : Rf) : ∀ u ∈ rfRow x, u.oneCell' = true := by
  intro u hu
  simp only [rfRow, List.mem_cons, List.not_mem_nil, or_false] at hu
  rcases hu with rfl | rfl | rfl | rfl <;> rfl
theorem infoR : (Tryz.prog.info? 120).map (fun i => (i.zero, i.size, i.bytes)) = some (some (.agg #[.string ByteArray.empty, .bool false, .slice none 0 0, .slice none 0 0]), 4, 72) := by kernel_rfl
section
variable {base : Nat} {w w' : World} {sp : Option Addr} {c : Nat} {rs : List Rf}
theorem OwnR.empty (w : World) (base : Nat) (hb : base ≤ w.heap.size) : OwnR base (w.alloc (.cells #[] 120)) (some ⟨w.heap.size, 0, none⟩) 0 [] :=
  ⟨⟨rfl, .inr ⟨w.heap.size, 0, #[], rfl, hb, heap_new w _, Nat.le_refl _, by simp [maxLen], rfl, rfl⟩⟩, by simp⟩
theorem run_appendR (hown : OwnR base w sp c rs) (B : Nat) (x : Rf) (hB : w.heap[B]? = some (rfObj x)) (hd : RfAt base w x) (hn : (rs.length + 1) * 72 ≤ 140737488355328) (hbase : base ≤ w.heap.size) (ty : TypeId) :
    ∃ sp' c' w', (Builtin.append_ #[106, 106] ty #[.slice sp rs.length c, .slice (some ⟨B, 0, none⟩) 1 1]).run Tryz.prog w = .ok (.slice sp' (rs.length + 1) c') w' ∧ OwnR base w' sp' c' (rs ++ [x]) ∧ Grew w sp w' sp' := by
  obtain ⟨i0, hi, hz0, hz1, hz2⟩ := info_parts infoR
  obtain ⟨v', w', hrun, h1, h2, _, h5⟩ := run_append_own_at (P := Tryz.prog) w base 106 ty 120 i0 _ 4 72 Tryz.underlying106 hi hz0 hz1 hz2 rfl (by omega) _ _ _ hown.row ⟨B, 0, none⟩ 1 1 (rfRow x) rfl
    (fun j u hu => by have := World.news_of_block (show w.heap[B]? = some (.cells (rfRow x).toArray 120 (0, 0)) from hB) j u; simp only at this; exact this hu) (rf_oneCell x) (by simp only [maxLen]; omega) (by omega) hbase
  have hv : ∃ sp' c', v' = .slice sp' (rs.length + 1) c' := by
    rcases h1.2 with ⟨hv, h0⟩ | ⟨g, cap, cur, hv, _⟩
    · omega
    · exact ⟨_, _, hv⟩
  obtain ⟨sp', c', rfl⟩ := hv
  rw [ownBlock_slice] at h2
  rw [ownBlock_slice, ownBlock_slice] at h5
  have hkeep : ∀ y, RfAt base w y → RfAt base w' y := fun y hy => hy.same (fun g hg => h2.block g (hy.lt hg).2 (fun e => by
    obtain ⟨_, _, cur, hc⟩ := own_is hown.row g e.symm
    rcases hg with hg | hg
    · obtain ⟨_, _, cur2, hc2⟩ := hy.sure.isT g hg
      rw [hc] at hc2; simp at hc2
    · obtain ⟨_, _, cur2, hc2⟩ := own_is hy.units g hg
      rw [hc] at hc2; simp at hc2))
  refine ⟨sp', c', w', hrun, ⟨?_, fun y hy => ?_⟩, ⟨h2, fun g hg => ?_⟩⟩
  · rw [List.flatMap_append, List.length_append]
    simpa using h1
  · rcases List.mem_append.1 hy with hy | hy
    · exact hkeep y (hown.dat y hy)
    · obtain rfl : y = x := by simpa using hy
      exact hkeep y hd
  · rcases h5 with h5 | h5
    · exact .inl (h5.symm.trans hg)
    · rw [h5] at hg
      exact .inr (Nat.le_of_eq (Option.some.inj hg))
end
theorem wpList_appendR {w : World} {ops : Array Oper} {rest : List Oper} {o : Oper} {a : Act} {Q : Exit → Act → World → Prop} (hgd : o.guard = none) (s x : Operand)
    (ho : o.op = .call { callee := .builtin .append, args := #[s, x], argTypes := #[106, 106] })
    (base : Nat) (sp : Option Addr) (n c : Nat) (rs : List Rf) (hs : a.eval s = .slice sp n c) (hn : rs.length = n) (hown : OwnR base w sp c rs) (B : Nat) (t : Rf) (hx : a.eval x = .slice (some ⟨B, 0, none⟩) 1 1)
    (hB : w.heap[B]? = some (rfObj t)) (hd : RfAt base w t) (hsz : (n + 1) * 72 ≤ 140737488355328) (hbase : base ≤ w.heap.size)
    (hk : ∀ sp' c' w', OwnR base w' sp' c' (rs ++ [t]) → Grew w sp w' sp' → wpList Tryz.prog ops Q rest (a.put o.dst (.slice sp' (n + 1) c')) w') :
    wpList Tryz.prog ops Q (o :: rest) a w := by
  subst hn
  refine wpList_plain hgd fun K hK => ?_
  obtain ⟨sp', c', w', hrun, h1, h2⟩ := run_appendR hown B t hB hd hsz hbase o.type
  unfold Oper.wp
  simp [execOp, ho, resolve, invoke, builtin, hs, hx, hrun, Result.andThen]
  exact hK _ _ (hk sp' c' w' h1 h2)
theorem step_appendR {w : World} {ops : Array Oper} {o : Oper} {a : Act} {K : Act → World → Prop} {Q : Exit → Act → World → Prop} {E : Prop} (hgd : o.guard = none) (s x : Operand)
    (ho : o.op = .call { callee := .builtin .append, args := #[s, x], argTypes := #[106, 106] })
    (base : Nat) (sp : Option Addr) (n c : Nat) (rs : List Rf) (hs : a.eval s = .slice sp n c) (hn : rs.length = n) (hown : OwnR base w sp c rs) (B : Nat) (t : Rf) (hx : a.eval x = .slice (some ⟨B, 0, none⟩) 1 1)
    (hB : w.heap[B]? = some (rfObj t)) (hd : RfAt base w t) (hsz : (n + 1) * 72 ≤ 140737488355328) (hbase : base ≤ w.heap.size)
    (hk : ∀ sp' c' w', OwnR base w' sp' c' (rs ++ [t]) → Grew w sp w' sp' → K (a.put o.dst (.slice sp' (n + 1) c')) w') :
    if Region.wanted o (yielded ops a.tmps) = true then Oper.wp Tryz.prog o a w K Q else E := by
  subst hn
  have hw : Region.wanted o (yielded ops a.tmps) = true := by simp [Region.wanted, hgd]
  rw [if_pos hw]
  obtain ⟨sp', c', w', hrun, h1, h2⟩ := run_appendR hown B t hB hd hsz hbase o.type
  unfold Oper.wp
  simp [execOp, ho, resolve, invoke, builtin, hs, hx, hrun, Result.andThen]
  exact hk sp' c' w' h1 h2
/-- The document's disk: its block, its room, its files. -/
structure RefAt (base : Nat) (w : World) (R room : Nat) (sp : Option Addr) (c : Nat) (rs : List Rf) : Prop where
  box : w.heap[R]? = some (.cells #[.int .i64 (room : Int), .slice sp rs.length c] 108 (0, 0))
  own : OwnR base w sp c rs
  low : base ≤ R
  rise : Rises rs
  few : rs.length ≤ 16
section
variable {base R room : Nat} {w w' : World} {sp : Option Addr} {c : Nat} {rs : List Rf}
theorem RefAt.ltR (h : RefAt base w R room sp c rs) : R < w.heap.size := (Array.getElem?_eq_some_iff.1 h.box).1
theorem RefAt.c0 (h : RefAt base w R room sp c rs) : w.cell? ⟨R, 0, none⟩ = some (.int .i64 (room : Int)) := fcell h.box 0 _ rfl
theorem RefAt.c1 (h : RefAt base w R room sp c rs) : w.cell? ⟨R, 1, none⟩ = some (.slice sp rs.length c) := fcell h.box 1 _ rfl
theorem RefAt.z1 (h : RefAt base w R room sp c rs) : w.frozen? ⟨R, 1, none⟩ = false := ffree h.box 1
theorem RefAt.same (h : RefAt base w R room sp c rs) (hR : w'.heap[R]? = w.heap[R]?) (hs : ∀ g, footR sp rs g → w'.heap[g]? = w.heap[g]?) : RefAt base w' R room sp c rs := ⟨hR.trans h.box, h.own.same hs, h.low, h.rise, h.few⟩
theorem RefAt.later (h : RefAt base w R room sp c rs) (hb : Below w.heap.size w w') : RefAt base w' R room sp c rs := ⟨(hb.block R h.ltR).trans h.box, h.own.later hb, h.low, h.rise, h.few⟩
theorem RefAt.drew (h : RefAt base w R room sp c rs) : RefAt base w.drew R room sp c rs := h.same rfl (fun _ _ => rfl)
/-- The list is another one. -/
theorem RefAt.set (h : RefAt base w R room sp c rs) (sp' : Option Addr) (c' : Nat) (rs' : List Rf) (ho : OwnR base w sp' c' rs') (hr : Rises rs') (hf : rs'.length ≤ 16) : RefAt base (w.setCell ⟨R, 1, none⟩ (.slice sp' rs'.length c')) R room sp' c' rs' := by
  refine ⟨?_, ho.same (fun g hg => heap_setCell_other _ ⟨R, 1, none⟩ g _ (fun e => ?_)), h.low, hr, hf⟩
  · rw [heap_setCell_same w R 1 _ 108 _ h.box]
    rfl
  · have e2 : g = R := e
    rw [e2] at hg
    rcases hg with hg | ⟨x, hx, hg | hg⟩
    · obtain ⟨_, _, cur, hc⟩ := own_is ho.row R hg
      rw [h.box] at hc; simp at hc
    · obtain ⟨_, _, cur, hc⟩ := (ho.dat x hx).sure.isT R hg
      rw [h.box] at hc; simp at hc
    · obtain ⟨_, _, cur, hc⟩ := own_is (ho.dat x hx).units R hg
      rw [h.box] at hc; simp at hc
/-- How find ends. -/
def FindEnd (rs : List Rf) (k : Nm) (e : Ending) : Prop := (∃ i, ∃ hi : i < rs.length, rs[i].1 = k ∧ e = .returned (.int .i64 (i : Int))) ∨ (k ∉ rs.map (·.1) ∧ e = .returned (.int .i64 (-1)))
set_option maxHeartbeats 4000000 in
theorem rfind_calls (h : RefAt base w R room sp c rs) (s : ByteArray) :
    Calls Tryz.prog 84 #[.pointer (some ⟨R, 0, none⟩), .string s] w fun e w' => w' = w ∧ FindEnd rs s.data.toList e := by
  have c1 := h.c1
  have H := hide h
  have h16 := h.few
  clear h
  obtain ⟨n, hn⟩ : ∃ n, rs.length = n := ⟨_, rfl⟩
  rw [hn] at c1 h16
  have HN := hide hn
  clear hn
  go_enter Tryz.func84, Tryz.ntmps84
  go_wp2_with fail
  go_loopw [5] (fun i wr => ∃ j : Nat, j ≤ n ∧ i = .int .i64 (j : Int) ∧ Hid (s.data.toList ∉ (rs.take j).map (·.1)) ∧ Hid (wr = w)) (fun i _ => n - (intOf i).toNat)
  case atStart => exact ⟨0, by omega, rfl, hide (by simp), hide rfl⟩
  case round =>
    obtain ⟨j, hj, rfl, HM, HW⟩ := hrel
    have hW := unhide HW
    subst hW
    by_cases hjn : j < n
    · have y1 : (j : Int) < (n : Int) := by omega
      have y0 : (0 : Int) ≤ (j : Int) := by omega
      have hjr : j < rs.length := by rw [unhide HN]; exact hjn
      obtain ⟨g, rfl, p0, _⟩ := (unhide H).own.cells j hjr
      by_cases he : rs[j].1 = s.data.toList
      · have E1 := hide he
        rw [he, show str s.data.toList = s from by cases s; simp [str]] at p0
        clear he
        go_wp2
        go_ret
        exact ⟨rfl, .inl ⟨j, hjr, unhide E1, rfl⟩⟩
      · have hne : ((str rs[j].1).toList == s.toList) = false := by
          rw [ByteArray.toList_eq, ByteArray.toList_eq, str_list]; simpa using he
        have M2 := hide (show s.data.toList ∉ (rs.take (j + 1)).map (·.1) by
          rw [List.take_succ_eq_append_getElem hjr, List.map_append, List.mem_append, not_or]
          exact ⟨unhide HM, by simpa using fun e => he e.symm⟩)
        clear he
        generalize rs[j].1 = t at *
        go_wp2
        exact ⟨⟨j + 1, by omega, by go_num, unhide M2, by first | exact hide trivial | exact hide rfl⟩, by simp [intOf]; omega⟩
    · have y1 : ¬ (j : Int) < (n : Int) := by omega
      have M2 := hide (show s.data.toList ∉ rs.map (·.1) by
        have := unhide HM
        rw [List.take_of_length_le (by rw [unhide HN]; omega)] at this
        exact this)
      go_wp2
      go_ret
      exact ⟨rfl, .inr ⟨unhide M2, rfl⟩⟩
end
theorem putF_pre {α : Type} {k : Nm} {v : α} : ∀ (p r : List (Nm × α)), (∀ y ∈ p, y.1 < k) → putF k v (p ++ r) = p ++ putF k v r
  | [], _, _ => rfl
  | x :: p, r, h => by
    have e : putF k v (x :: (p ++ r)) = if x.1 < k then x :: putF k v (p ++ r) else if x.1 = k then (k, v) :: (p ++ r) else (k, v) :: x :: (p ++ r) := rfl
    show putF k v (x :: (p ++ r)) = _
    rw [e, if_pos (h x List.mem_cons_self), putF_pre p r (fun y hy => h y (List.mem_cons_of_mem _ hy))]
    rfl
theorem putF_snoc {α : Type} {k : Nm} {v : α} (z : Nm × α) : ∀ (p : List (Nm × α)), Rises (p ++ [z]) → (∃ y ∈ p, ¬ y.1 < k) → putF k v (p ++ [z]) = putF k v p ++ [z] ∧ z.1 ≠ k
  | [], _, h => by obtain ⟨y, hy, _⟩ := h; simp at hy
  | x :: p, hr, h => by
    have h1 := List.pairwise_cons.1 (show (x :: (p ++ [z])).Pairwise _ from hr)
    have hxz : x.1 < z.1 := h1.1 z (by simp)
    show putF k v (x :: (p ++ [z])) = putF k v (x :: p) ++ [z] ∧ _
    unfold putF
    by_cases hx : x.1 < k
    · rw [if_pos hx, if_pos hx]
      obtain ⟨y, hy, hyk⟩ := h
      rcases List.mem_cons.1 hy with rfl | hy
      · exact absurd hx hyk
      · obtain ⟨e1, e2⟩ := putF_snoc (v := v) z p h1.2 ⟨y, hy, hyk⟩
        rw [e1]
        exact ⟨rfl, e2⟩
    · rw [if_neg hx, if_neg hx]
      have hzk : z.1 ≠ k := fun e => by
        rw [e] at hxz
        exact hx hxz
      refine ⟨?_, hzk⟩
      split <;> rfl
def PutInv (nm : Nm) (v : RV) (rs : List Rf) (j : Nat) (dn : Bool) (out : List Rf) : Prop :=
  (dn = false ∧ out = rs.take j ∧ ∀ y ∈ rs.take j, y.1 < nm) ∨ (dn = true ∧ out = putF nm v (rs.take j) ∧ ∃ y ∈ rs.take j, ¬ y.1 < nm)
theorem PutInv.end_ {nm : Nm} {v : RV} {rs : List Rf} {dn : Bool} {out : List Rf} (h : PutInv nm v rs rs.length dn out) : (dn = true ∧ out = putF nm v rs) ∨ (dn = false ∧ out ++ [(nm, v)] = putF nm v rs) := by
  unfold PutInv at h
  rw [List.take_length] at h
  rcases h with ⟨h1, h2, h3⟩ | ⟨h1, h2, _⟩
  · refine .inr ⟨h1, ?_⟩
    have := putF_pre (k := nm) (v := v) rs [] h3
    rw [List.append_nil] at this
    rw [this, h2]
    rfl
  · exact .inl ⟨h1, h2⟩
theorem str_of' (s : ByteArray) : str s.data.toList = s := by
  cases s; simp [str]
set_option maxRecDepth 20000 in
set_option maxHeartbeats 40000000 in
theorem rput_calls (base : Nat) (w : World) (sp : Option Addr) (c : Nat) (rs : List Rf) (x : Rf) (h : OwnR base w sp c rs) (hr : Rises rs) (hf : rs.length ≤ 16) (hx : RfAt base w x) (hbs : base ≤ w.heap.size) :
    Calls Tryz.prog 86 #[.slice sp rs.length c, rfVal x] w fun e w' => ∃ sp' n' c', e = .returned (.slice sp' n' c') ∧ (putF x.1 x.2 rs).length = n' ∧ OwnR base w' sp' c' (putF x.1 x.2 rs) ∧ (∀ g, blk sp' = some g → w.heap.size ≤ g) ∧ Below w.heap.size w w' := by
  obtain ⟨nm, s, yp, yc, up, uc⟩ := x
  have b1 : Below w.heap.size w (w.alloc (rfObj (nm, ⟨s, yp, yc, up, uc⟩))) := (Below.refl _ _).alloc (Nat.le_refl _) _
  have hs1 : (w.alloc (rfObj (nm, ⟨s, yp, yc, up, uc⟩))).heap.size = w.heap.size + 1 := by simp
  have b2 : Below (w.heap.size + 1) (w.alloc (rfObj (nm, ⟨s, yp, yc, up, uc⟩))) ((w.alloc (rfObj (nm, ⟨s, yp, yc, up, uc⟩))).alloc (.cells #[] 120)) := by
    have := (Below.refl (w.alloc (rfObj (nm, ⟨s, yp, yc, up, uc⟩))).heap.size (w.alloc (rfObj (nm, ⟨s, yp, yc, up, uc⟩)))).alloc (Nat.le_refl _) (.cells #[] 120)
    rw [hs1] at this
    exact this
  have O0 := hide (OwnR.empty (w.alloc (rfObj (nm, ⟨s, yp, yc, up, uc⟩))) (w.heap.size + 1) (by omega))
  rw [hs1] at O0
  have B1 := hide b1
  have B2 := hide b2
  have XC := hide (show ∀ W : World, Below (w.heap.size + 1) (w.alloc (rfObj (nm, ⟨s, yp, yc, up, uc⟩))) W → W.heap[w.heap.size]? = some (rfObj (nm, ⟨s, yp, yc, up, uc⟩)) from fun W b => by
    rw [b.block w.heap.size (by omega)]
    exact heap_new w _)
  have H := hide h
  have HX := hide hx
  have HR := hide hr
  have HS := hide hbs
  have hKK : (putF nm (⟨s, yp, yc, up, uc⟩ : RV) rs).length ≤ 17 := by
    rw [putF_length hr]; split <;> omega
  have HF := hide hf
  unfold rfVal
  clear h hx hr hbs b1 b2 hs1
  simp only
  generalize hn : rs.length = n at *
  have HN := hide hn
  clear hn
  have XCC := hide (show ∀ W : World, Below (w.heap.size + 1) (w.alloc (rfObj (nm, ⟨s, yp, yc, up, uc⟩))) W → W.cell? ⟨w.heap.size, 0, none⟩ = some (.string (str nm)) ∧ W.cell? ⟨w.heap.size, 1, none⟩ = some (.bool s.la) ∧ W.cell? ⟨w.heap.size, 2, none⟩ = some (.slice yp s.y.length yc) ∧ W.cell? ⟨w.heap.size, 3, none⟩ = some (.slice up s.us.length uc) from fun W b => by
    have hh := unhide XC W b
    exact ⟨fcell hh 0 _ rfl, fcell hh 1 _ rfl, fcell hh 2 _ rfl, fcell hh 3 _ rfl⟩)
  have RC := hide (show ∀ W : World, Below (w.heap.size + 1) (w.alloc (rfObj (nm, ⟨s, yp, yc, up, uc⟩))) W → OwnR base W sp c rs ∧ RfAt base W (nm, ⟨s, yp, yc, up, uc⟩) ∧ w.heap.size + 1 ≤ W.heap.size from fun W b => by
    have b3 := (unhide B1).trans (b.mono (by omega))
    have e : (w.alloc (rfObj (nm, ⟨s, yp, yc, up, uc⟩))).heap.size = w.heap.size + 1 := by simp
    exact ⟨(unhide H).later b3, (unhide HX).later b3, by rw [← e]; exact b.size⟩)
  have O0' := hide (show OwnR base ((w.alloc (rfObj (nm, ⟨s, yp, yc, up, uc⟩))).alloc (.cells #[] 120)) (some ⟨w.heap.size + 1, 0, none⟩) 0 [] from ⟨own_mono (unhide O0).row (by have := unhide HS; omega), by simp⟩)
  unfold rfObj at O0' B2 XC B1 RC XCC
  clear O0
  go_enter Tryz.func86, Tryz.ntmps86
  go_wp2_with fail
  generalize w.alloc (.cells #[.string (str nm), .bool s.la, .slice yp s.y.length yc, .slice up s.us.length uc] 120) = V1 at *
  have VS := hide (unhide RC V1 (Below.refl _ _)).2.2
  go_loopw [5, 6, 7] (fun v5 v6 v7 wr => ∃ (j m : Nat) (op : Option Addr) (oc : Nat) (dn : Bool) (out : List Rf), j ≤ n ∧ m ≤ j + 1 ∧ v5 = .slice op m oc ∧ v6 = .bool dn ∧ v7 = .int .i64 (j : Int) ∧ Hid (out.length = m) ∧ Hid (OwnR base wr op oc out) ∧ Hid (∀ g, blk op = some g → w.heap.size + 1 ≤ g) ∧ Hid (PutInv nm ⟨s, yp, yc, up, uc⟩ rs j dn out) ∧ Hid (Below (w.heap.size + 1) V1 wr)) (fun _ _ v7 _ => n - (intOf v7).toNat)
  case atStart => exact ⟨0, 0, _, 0, false, [], by omega, by omega, rfl, rfl, rfl, rfl, O0', hide (fun g hg => by simp [blk] at hg; omega), hide (.inl ⟨rfl, rfl, by simp⟩), B2⟩
  case round =>
    obtain ⟨j, m, op, oc, dn, out, hj, hmj, rfl, rfl, rfl, HM, HO, HG, HP, HB⟩ := hrel
    by_cases hjn : j < n
    · have y1 : (j : Int) < (n : Int) := by omega
      have y0 : (0 : Int) ≤ (j : Int) := by omega
      have hjr : j < rs.length := by rw [unhide HN]; exact hjn
      obtain ⟨g, rfl, p0, p1, p2, p3⟩ := (unhide RC wr (unhide HB)).1.cells j hjr
      obtain ⟨x0, x1, x2, x3⟩ := unhide XCC wr (unhide HB)
      have ZM := hide (List.getElem_mem hjr)
      have TK := hide (List.take_succ_eq_append_getElem hjr)
      have RT := hide (show Rises (rs.take (j + 1)) from (unhide HR).sublist (List.take_sublist _ _))
      have PC := hide (show ∀ W, Below (w.heap.size + 1) V1 W → W.cell? ⟨g, j * 4, none⟩ = some (.string (str rs[j].1)) ∧ W.cell? ⟨g, j * 4 + 1, none⟩ = some (.bool rs[j].2.s.la) ∧ W.cell? ⟨g, j * 4 + 2, none⟩ = some (.slice rs[j].2.yp rs[j].2.s.y.length rs[j].2.yc) ∧ W.cell? ⟨g, j * 4 + 3, none⟩ = some (.slice rs[j].2.up rs[j].2.s.us.length rs[j].2.uc) from fun W b => by
        obtain ⟨g', e', q⟩ := (unhide RC W b).1.cells j hjr
        obtain rfl : g = g' := by simpa using e'
        exact q)
      generalize rs[j] = z at *
      cases dn with
      | false =>
        have hP : out = rs.take j ∧ ∀ y ∈ rs.take j, y.1 < nm := by
          rcases unhide HP with ⟨_, h2⟩ | ⟨h1, _⟩
          · exact h2
          · cases h1
        have hmj2 : m ≤ j := by rw [← unhide HM, hP.1, List.length_take]; omega
        have PE := hide (show putF nm (⟨s, yp, yc, up, uc⟩ : RV) (rs.take (j + 1)) = out ++ putF nm ⟨s, yp, yc, up, uc⟩ [z] by rw [unhide TK, hP.1]; exact putF_pre _ _ hP.2)
        rcases nm_tri z.1 nm with hlt | heq | hgt
        · have z1 : Op.bytesLess (str z.1).toList (str nm).toList = true := by
            rw [bytesLess_eq, ByteArray.toList_eq, ByteArray.toList_eq, str_list, str_list, decide_eq_true_eq]; exact hlt
          have z2 : ((str z.1).toList == (str nm).toList) = false := by
            rw [ByteArray.toList_eq, ByteArray.toList_eq, str_list, str_list]
            simp only [beq_eq_false_iff_ne]
            exact fun hh => nm_irrefl _ (hh ▸ hlt)
          have P2 := hide (show PutInv nm ⟨s, yp, yc, up, uc⟩ rs (j + 1) false (out ++ [z]) from .inl ⟨rfl, by rw [hP.1, unhide TK], fun y hy => by
            rw [unhide TK, List.mem_append] at hy
            rcases hy with hy | hy
            · exact hP.2 y hy
            · obtain rfl : y = z := by simpa using hy
              exact hlt⟩)
          clear hP hlt
          go_wp2_with fail
          go_quiet (fail)
          go_wp2_with fail
          go_quiet (fail)
          have AZ9 := hide (show Below wr.heap.size wr (wr.alloc (rfObj z)) from (Below.refl _ _).alloc (Nat.le_refl _) _)
          have OZ9 := hide ((unhide HO).later (unhide AZ9))
          have BZ9 := hide ((unhide HB).trans ((unhide AZ9).mono (unhide RC _ (unhide HB)).2.2))
          have XZ9 := hide (heap_new wr (rfObj z))
          have DZ9 := hide ((unhide RC _ (unhide BZ9)).1.dat z (unhide ZM))
          have SZ9 := hide (show base ≤ (wr.alloc (rfObj z)).heap.size from Nat.le_trans (by have := unhide HS; omega) (unhide RC _ (unhide BZ9)).2.2)
          unfold rfObj at AZ9 OZ9 BZ9 DZ9 SZ9
          go_wp2_with (at_builtin; refine wpList_appendR rfl (.tmp 39) (.tmp 44) rfl base op m oc out rfl (unhide HM) (by exact (unhide OZ9).same (fun _ _ => rfl)) wr.heap.size z rfl (by exact unhide XZ9) (by exact (unhide DZ9).same (fun _ _ => rfl)) (by omega) (by exact unhide SZ9) ?_; intro sp9 c9 V9 hO9 hG9; refine unhide ?_)
          refine hide ?_
          have O9 := hide hO9
          have B9' := hide (show Below (w.heap.size + 1) V1 V9 from (unhide BZ9).grown ⟨hG9.grown.os, hG9.grown.tape, hG9.grown.output, hG9.grown.size, hG9.grown.block⟩ (unhide RC _ (unhide BZ9)).2.2 (fun g' hg' => unhide HG g' hg'))
          have G9 := hide (show ∀ g, blk sp9 = some g → w.heap.size + 1 ≤ g from fun g hg => by
            rcases hG9.lies g hg with h1 | h1
            · exact unhide HG g h1
            · exact Nat.le_trans (unhide RC _ (unhide BZ9)).2.2 h1)
          clear hO9 hG9
          go_wp2
          exact ⟨⟨j + 1, m + 1, sp9, c9, false, out ++ [z], by omega, by omega, rfl, rfl, by go_num, by rw [List.length_append, unhide HM]; rfl, unhide O9, unhide G9, unhide P2, unhide B9'⟩, by simp [intOf]; omega⟩
        · have z1 : Op.bytesLess (str z.1).toList (str nm).toList = false := by
            rw [bytesLess_eq, ByteArray.toList_eq, ByteArray.toList_eq, str_list, str_list, decide_eq_false_iff_not, heq]; exact nm_irrefl _
          have z2 : ((str z.1).toList == (str nm).toList) = true := by
            rw [ByteArray.toList_eq, ByteArray.toList_eq, str_list, str_list, heq]; simp
          have P2 := hide (show PutInv nm ⟨s, yp, yc, up, uc⟩ rs (j + 1) true (out ++ [(nm, ⟨s, yp, yc, up, uc⟩)]) from .inr ⟨rfl, by
            rw [unhide PE]
            simp [putF, heq, nm_irrefl], z, by rw [unhide TK]; simp, by rw [heq]; exact nm_irrefl _⟩)
          clear hP heq
          go_wp2_with fail
          go_quiet (fail)
          have AZ5 := hide (show Below wr.heap.size wr (wr.alloc (rfObj (nm, ⟨s, yp, yc, up, uc⟩))) from (Below.refl _ _).alloc (Nat.le_refl _) _)
          have OZ5 := hide ((unhide HO).later (unhide AZ5))
          have BZ5 := hide ((unhide HB).trans ((unhide AZ5).mono (unhide RC _ (unhide HB)).2.2))
          have XZ5 := hide (heap_new wr (rfObj (nm, ⟨s, yp, yc, up, uc⟩)))
          have DZ5 := hide ((unhide RC _ (unhide BZ5)).2.1)
          have SZ5 := hide (show base ≤ (wr.alloc (rfObj (nm, ⟨s, yp, yc, up, uc⟩))).heap.size from Nat.le_trans (by have := unhide HS; omega) (unhide RC _ (unhide BZ5)).2.2)
          unfold rfObj at AZ5 OZ5 BZ5 DZ5 SZ5
          go_wp2_with (at_builtin; refine wpList_appendR rfl (.tmp 27) (.tmp 29) rfl base op m oc out rfl (unhide HM) (by exact (unhide OZ5).same (fun _ _ => rfl)) wr.heap.size (nm, ⟨s, yp, yc, up, uc⟩) rfl (by exact unhide XZ5) (by exact (unhide DZ5).same (fun _ _ => rfl)) (by omega) (by exact unhide SZ5) ?_; intro sp5 c5 V5 hO5 hG5; refine unhide ?_)
          refine hide ?_
          have O5 := hide hO5
          have B5' := hide (show Below (w.heap.size + 1) V1 V5 from (unhide BZ5).grown ⟨hG5.grown.os, hG5.grown.tape, hG5.grown.output, hG5.grown.size, hG5.grown.block⟩ (unhide RC _ (unhide BZ5)).2.2 (fun g' hg' => unhide HG g' hg'))
          have G5 := hide (show ∀ g, blk sp5 = some g → w.heap.size + 1 ≤ g from fun g hg => by
            rcases hG5.lies g hg with h1 | h1
            · exact unhide HG g h1
            · exact Nat.le_trans (unhide RC _ (unhide BZ5)).2.2 h1)
          clear hO5 hG5
          obtain ⟨p0, p1, p2, p3⟩ := unhide PC V5 (unhide B5')
          obtain ⟨x0, x1, x2, x3⟩ := unhide XCC V5 (unhide B5')
          go_wp2_with fail
          go_quiet (fail)
          go_wp2
          exact ⟨⟨j + 1, m + 1, sp5, c5, true, out ++ [((nm, ⟨s, yp, yc, up, uc⟩) : Rf)], by omega, by omega, rfl, rfl, by go_num, by rw [List.length_append, unhide HM]; rfl, hide ((unhide O5).same (fun _ _ => rfl)), unhide G5, unhide P2, below_drewN (unhide B5') _⟩, by simp [intOf]; omega⟩
        · have z1 : Op.bytesLess (str z.1).toList (str nm).toList = false := by
            rw [bytesLess_eq, ByteArray.toList_eq, ByteArray.toList_eq, str_list, str_list, decide_eq_false_iff_not]; exact fun hh => nm_irrefl _ (nm_trans hh hgt)
          have z2 : ((str z.1).toList == (str nm).toList) = false := by
            rw [ByteArray.toList_eq, ByteArray.toList_eq, str_list, str_list]
            simp only [beq_eq_false_iff_ne]
            exact fun hh => nm_irrefl _ (hh ▸ hgt)
          have P2 := hide (show PutInv nm ⟨s, yp, yc, up, uc⟩ rs (j + 1) true ((out ++ [(nm, ⟨s, yp, yc, up, uc⟩)]) ++ [z]) from .inr ⟨rfl, by
            rw [unhide PE]
            have h1 : ¬ z.1 < nm := fun hh => nm_irrefl _ (nm_trans hh hgt)
            have h2 : ¬ z.1 = nm := fun hh => nm_irrefl _ (hh ▸ hgt)
            simp [putF, h1, h2], z, by rw [unhide TK]; simp, fun hh => nm_irrefl _ (nm_trans hh hgt)⟩)
          clear hP hgt
          go_wp2_with fail
          go_quiet (fail)
          have AZ5 := hide (show Below wr.heap.size wr (wr.alloc (rfObj (nm, ⟨s, yp, yc, up, uc⟩))) from (Below.refl _ _).alloc (Nat.le_refl _) _)
          have OZ5 := hide ((unhide HO).later (unhide AZ5))
          have BZ5 := hide ((unhide HB).trans ((unhide AZ5).mono (unhide RC _ (unhide HB)).2.2))
          have XZ5 := hide (heap_new wr (rfObj (nm, ⟨s, yp, yc, up, uc⟩)))
          have DZ5 := hide ((unhide RC _ (unhide BZ5)).2.1)
          have SZ5 := hide (show base ≤ (wr.alloc (rfObj (nm, ⟨s, yp, yc, up, uc⟩))).heap.size from Nat.le_trans (by have := unhide HS; omega) (unhide RC _ (unhide BZ5)).2.2)
          unfold rfObj at AZ5 OZ5 BZ5 DZ5 SZ5
          go_wp2_with (at_builtin; refine wpList_appendR rfl (.tmp 27) (.tmp 29) rfl base op m oc out rfl (unhide HM) (by exact (unhide OZ5).same (fun _ _ => rfl)) wr.heap.size (nm, ⟨s, yp, yc, up, uc⟩) rfl (by exact unhide XZ5) (by exact (unhide DZ5).same (fun _ _ => rfl)) (by omega) (by exact unhide SZ5) ?_; intro sp5 c5 V5 hO5 hG5; refine unhide ?_)
          refine hide ?_
          have O5 := hide hO5
          have B5' := hide (show Below (w.heap.size + 1) V1 V5 from (unhide BZ5).grown ⟨hG5.grown.os, hG5.grown.tape, hG5.grown.output, hG5.grown.size, hG5.grown.block⟩ (unhide RC _ (unhide BZ5)).2.2 (fun g' hg' => unhide HG g' hg'))
          have G5 := hide (show ∀ g, blk sp5 = some g → w.heap.size + 1 ≤ g from fun g hg => by
            rcases hG5.lies g hg with h1 | h1
            · exact unhide HG g h1
            · exact Nat.le_trans (unhide RC _ (unhide BZ5)).2.2 h1)
          clear hO5 hG5
          obtain ⟨p0, p1, p2, p3⟩ := unhide PC V5 (unhide B5')
          obtain ⟨x0, x1, x2, x3⟩ := unhide XCC V5 (unhide B5')
          go_wp2_with fail
          go_quiet (fail)
          have AZ9 := hide (show Below V5.heap.size V5 (V5.alloc (rfObj z)) from (Below.refl _ _).alloc (Nat.le_refl _) _)
          have OZ9 := hide ((unhide O5).later (unhide AZ9))
          have BZ9 := hide ((unhide B5').trans ((unhide AZ9).mono (unhide RC _ (unhide B5')).2.2))
          have XZ9 := hide (heap_new V5 (rfObj z))
          have DZ9 := hide ((unhide RC _ (unhide BZ9)).1.dat z (unhide ZM))
          have SZ9 := hide (show base ≤ (V5.alloc (rfObj z)).heap.size from Nat.le_trans (by have := unhide HS; omega) (unhide RC _ (unhide BZ9)).2.2)
          unfold rfObj at AZ9 OZ9 BZ9 DZ9 SZ9
          go_wp2_with (at_builtin; refine wpList_appendR rfl (.tmp 39) (.tmp 44) rfl base sp5 (m + 1) c5 (out ++ [(nm, ⟨s, yp, yc, up, uc⟩)]) rfl (by rw [List.length_append, unhide HM]; rfl) (by exact (unhide OZ9).same (fun _ _ => rfl)) V5.heap.size z rfl (by exact unhide XZ9) (by exact (unhide DZ9).same (fun _ _ => rfl)) (by omega) (by exact unhide SZ9) ?_; intro sp9 c9 V9 hO9 hG9; refine unhide ?_)
          refine hide ?_
          have O9 := hide hO9
          have B9' := hide (show Below (w.heap.size + 1) V1 V9 from (unhide BZ9).grown ⟨hG9.grown.os, hG9.grown.tape, hG9.grown.output, hG9.grown.size, hG9.grown.block⟩ (unhide RC _ (unhide BZ9)).2.2 (fun g' hg' => unhide G5 g' hg'))
          have G9 := hide (show ∀ g, blk sp9 = some g → w.heap.size + 1 ≤ g from fun g hg => by
            rcases hG9.lies g hg with h1 | h1
            · exact unhide G5 g h1
            · exact Nat.le_trans (unhide RC _ (unhide BZ9)).2.2 h1)
          clear hO9 hG9
          go_wp2
          exact ⟨⟨j + 1, m + 1 + 1, sp9, c9, true, (out ++ [((nm, ⟨s, yp, yc, up, uc⟩) : Rf)]) ++ [z], by omega, by omega, rfl, rfl, by go_num, by rw [List.length_append, List.length_append, unhide HM]; rfl, unhide O9, unhide G9, unhide P2, unhide B9'⟩, by simp [intOf]; omega⟩
      | true =>
          have hP : out = putF nm ⟨s, yp, yc, up, uc⟩ (rs.take j) ∧ ∃ y ∈ rs.take j, ¬ y.1 < nm := by
            rcases unhide HP with ⟨h1, _⟩ | ⟨_, h2⟩
            · cases h1
            · exact h2
          obtain ⟨hp1, hp2⟩ := putF_snoc (k := nm) (v := (⟨s, yp, yc, up, uc⟩ : RV)) z (rs.take j) (by rw [← unhide TK]; exact unhide RT) hP.2
          have z2 : ((str z.1).toList == (str nm).toList) = false := by
            rw [ByteArray.toList_eq, ByteArray.toList_eq, str_list, str_list]
            simp only [beq_eq_false_iff_ne]
            exact hp2
          have P2 := hide (show PutInv nm ⟨s, yp, yc, up, uc⟩ rs (j + 1) true (out ++ [z]) from .inr ⟨rfl, by rw [unhide TK, hp1, hP.1], by
            obtain ⟨y, hy, hyn⟩ := hP.2
            exact ⟨y, by rw [unhide TK]; exact List.mem_append_left _ hy, hyn⟩⟩)
          clear hP hp1 hp2
          go_wp2_with fail
          go_quiet (fail)
          go_wp2_with fail
          go_quiet (fail)
          have AZ9 := hide (show Below wr.heap.size wr (wr.alloc (rfObj z)) from (Below.refl _ _).alloc (Nat.le_refl _) _)
          have OZ9 := hide ((unhide HO).later (unhide AZ9))
          have BZ9 := hide ((unhide HB).trans ((unhide AZ9).mono (unhide RC _ (unhide HB)).2.2))
          have XZ9 := hide (heap_new wr (rfObj z))
          have DZ9 := hide ((unhide RC _ (unhide BZ9)).1.dat z (unhide ZM))
          have SZ9 := hide (show base ≤ (wr.alloc (rfObj z)).heap.size from Nat.le_trans (by have := unhide HS; omega) (unhide RC _ (unhide BZ9)).2.2)
          unfold rfObj at AZ9 OZ9 BZ9 DZ9 SZ9
          go_wp2_with (at_builtin; refine wpList_appendR rfl (.tmp 39) (.tmp 44) rfl base op m oc out rfl (unhide HM) (by exact (unhide OZ9).same (fun _ _ => rfl)) wr.heap.size z rfl (by exact unhide XZ9) (by exact (unhide DZ9).same (fun _ _ => rfl)) (by omega) (by exact unhide SZ9) ?_; intro sp9 c9 V9 hO9 hG9; refine unhide ?_)
          refine hide ?_
          have O9 := hide hO9
          have B9' := hide (show Below (w.heap.size + 1) V1 V9 from (unhide BZ9).grown ⟨hG9.grown.os, hG9.grown.tape, hG9.grown.output, hG9.grown.size, hG9.grown.block⟩ (unhide RC _ (unhide BZ9)).2.2 (fun g' hg' => unhide HG g' hg'))
          have G9 := hide (show ∀ g, blk sp9 = some g → w.heap.size + 1 ≤ g from fun g hg => by
            rcases hG9.lies g hg with h1 | h1
            · exact unhide HG g h1
            · exact Nat.le_trans (unhide RC _ (unhide BZ9)).2.2 h1)
          clear hO9 hG9
          go_wp2
          exact ⟨⟨j + 1, m + 1, sp9, c9, true, out ++ [z], by omega, by omega, rfl, rfl, by go_num, by rw [List.length_append, unhide HM]; rfl, unhide O9, unhide G9, unhide P2, unhide B9'⟩, by simp [intOf]; omega⟩
    · have y1 : ¬ (j : Int) < (n : Int) := by omega
      have hjr : j = rs.length := by rw [unhide HN]; omega
      have PE := hide (PutInv.end_ (hjr ▸ unhide HP))
      clear hjr
      cases dn with
      | true =>
          have E1 := hide (show out = putF nm ⟨s, yp, yc, up, uc⟩ rs by
            rcases unhide PE with ⟨_, h⟩ | ⟨h, _⟩
            · exact h
            · cases h)
          go_wp2
          go_ret
          exact ⟨op, m, oc, rfl, by rw [← unhide E1]; exact unhide HM, by rw [← unhide E1]; exact unhide HO, fun g hg => by have := unhide HG g hg; omega, (unhide B1).trans ((unhide HB).mono (by omega))⟩
      | false =>
          have E1 := hide (show out ++ [(nm, ⟨s, yp, yc, up, uc⟩)] = putF nm ⟨s, yp, yc, up, uc⟩ rs by
            rcases unhide PE with ⟨h, _⟩ | ⟨_, h⟩
            · cases h
            · exact h)
          obtain ⟨x0, x1, x2, x3⟩ := unhide XCC wr (unhide HB)
          have AZ5 := hide (show Below wr.heap.size wr (wr.alloc (rfObj (nm, ⟨s, yp, yc, up, uc⟩))) from (Below.refl _ _).alloc (Nat.le_refl _) _)
          have OZ5 := hide ((unhide HO).later (unhide AZ5))
          have BZ5 := hide ((unhide HB).trans ((unhide AZ5).mono (unhide RC _ (unhide HB)).2.2))
          have XZ5 := hide (heap_new wr (rfObj (nm, ⟨s, yp, yc, up, uc⟩)))
          have DZ5 := hide ((unhide RC _ (unhide BZ5)).2.1)
          have SZ5 := hide (show base ≤ (wr.alloc (rfObj (nm, ⟨s, yp, yc, up, uc⟩))).heap.size from Nat.le_trans (by have := unhide HS; omega) (unhide RC _ (unhide BZ5)).2.2)
          unfold rfObj at AZ5 OZ5 BZ5 DZ5 SZ5
          go_wp2_with (at_builtin; refine wpList_appendR rfl (.tmp 48) (.tmp 50) rfl base op m oc out rfl (unhide HM) (by exact (unhide OZ5).same (fun _ _ => rfl)) wr.heap.size (nm, ⟨s, yp, yc, up, uc⟩) rfl (by exact unhide XZ5) (by exact (unhide DZ5).same (fun _ _ => rfl)) (by omega) (by exact unhide SZ5) ?_; intro sp5 c5 V5 hO5 hG5; refine unhide ?_)
          refine hide ?_
          have O5 := hide hO5
          have B5' := hide (show Below (w.heap.size + 1) V1 V5 from (unhide BZ5).grown ⟨hG5.grown.os, hG5.grown.tape, hG5.grown.output, hG5.grown.size, hG5.grown.block⟩ (unhide RC _ (unhide BZ5)).2.2 (fun g' hg' => unhide HG g' hg'))
          have G5 := hide (show ∀ g, blk sp5 = some g → w.heap.size + 1 ≤ g from fun g hg => by
            rcases hG5.lies g hg with h1 | h1
            · exact unhide HG g h1
            · exact Nat.le_trans (unhide RC _ (unhide BZ5)).2.2 h1)
          clear hO5 hG5
          go_wp2
          go_ret
          exact ⟨sp5, m + 1, c5, rfl, by rw [← unhide E1, List.length_append, unhide HM]; rfl, by rw [← unhide E1]; exact unhide O5, fun g hg => by have := unhide G5 g hg; omega, (unhide B1).trans ((unhide B5').mono (by omega))⟩
end Go.Proofs.YtagncghpfdjkmaaGreatDoor
