/- The document's disk: find, put, without. -/
import Derived.Test.YtghdiemihceaoaaB06
import Derived.Sort.Walk0
import Derived.Deep.RegionHeld3
section
namespace Go.Proofs.Ytghdiemihceaoaa
open Go.ChangeShapes Go.WideShapes Go.ChangeAt Go.RowKit Go.Maps

theorem rf_oneCell (x : Rf) : ∀ u ∈ rfRow x, u.oneCell' = true := by
  intro u hu
  simp only [rfRow, List.mem_cons, List.not_mem_nil, or_false] at hu
  rcases hu with rfl | rfl | rfl | rfl <;> rfl
theorem infoR : (Try.prog.info? 80).map (fun i => (i.zero, i.size, i.bytes)) = some (some (.agg #[.string ByteArray.empty, .bool false, .slice none 0 0, .slice none 0 0]), 4, 72) := by kernel_rfl
section
variable {base : Nat} {w w' : World} {sp : Option Addr} {c : Nat} {rs : List Rf}
theorem OwnR.empty (w : World) (base : Nat) (hb : base ≤ w.heap.size) : OwnR base (w.alloc (.cells #[] 80)) (some ⟨w.heap.size, 0, none⟩) 0 [] :=
  ⟨⟨rfl, .inr ⟨w.heap.size, 0, #[], rfl, hb, heap_new w _, Nat.le_refl _, by simp [maxLen], rfl, rfl⟩⟩, by simp⟩
theorem run_appendR (hown : OwnR base w sp c rs) (B : Nat) (x : Rf) (hB : w.heap[B]? = some (rfObj x)) (hd : RfAt base w x) (hn : (rs.length + 1) * 72 ≤ 140737488355328) (hbase : base ≤ w.heap.size) (ty : TypeId) :
    ∃ sp' c' w', (Builtin.append_ #[66, 66] ty #[.slice sp rs.length c, .slice (some ⟨B, 0, none⟩) 1 1]).run Try.prog w = .ok (.slice sp' (rs.length + 1) c') w' ∧ OwnR base w' sp' c' (rs ++ [x]) ∧ Grew w sp w' sp' := by
  obtain ⟨i0, hi, hz0, hz1, hz2⟩ := info_parts infoR
  obtain ⟨v', w', hrun, h1, h2, _, h5⟩ := run_append_own_at (P := Try.prog) w base 66 ty 80 i0 _ 4 72 Try.underlying66 hi hz0 hz1 hz2 rfl (by omega) _ _ _ hown.row ⟨B, 0, none⟩ 1 1 (rfRow x) rfl
    (fun j u hu => by have := World.news_of_block (show w.heap[B]? = some (.cells (rfRow x).toArray 80 (0, 0)) from hB) j u; simp only at this; exact this hu) (rf_oneCell x) (by simp only [maxLen]; omega) (by omega) hbase
  have hv : ∃ sp' c', v' = .slice sp' (rs.length + 1) c' := by
    rcases h1.2 with ⟨hv, h0⟩ | ⟨g, cap, cur, hv, _⟩
    · omega
    · exact ⟨_, _, hv⟩
  obtain ⟨sp', c', rfl⟩ := hv
  rw [ownBlock_slice] at h2
  rw [ownBlock_slice, ownBlock_slice] at h5
  have hkeep : ∀ y, RfAt base w y → RfAt base w' y := fun y hy => hy.same (fun g hg => h2.block g (hy.lt hg).2 (fun e => by
    obtain ⟨_, _, cur, hc⟩ := own_is hown.row g e.symm
    rcases hg with hg | hg
    · obtain ⟨_, _, cur2, hc2⟩ := hy.sure.isT g hg
      rw [hc] at hc2; simp at hc2
    · obtain ⟨_, _, cur2, hc2⟩ := own_is hy.units g hg
      rw [hc] at hc2; simp at hc2))
  refine ⟨sp', c', w', hrun, ⟨?_, fun y hy => ?_⟩, ⟨h2, fun g hg => ?_⟩⟩
  · rw [List.flatMap_append, List.length_append]
    simpa using h1
  · rcases List.mem_append.1 hy with hy | hy
    · exact hkeep y (hown.dat y hy)
    · obtain rfl : y = x := by simpa using hy
      exact hkeep y hd
  · rcases h5 with h5 | h5
    · exact .inl (h5.symm.trans hg)
    · rw [h5] at hg
      exact .inr (Nat.le_of_eq (Option.some.inj hg))
end
theorem wpList_appendR {w : World} {ops : Array Oper} {rest : List Oper} {o : Oper} {a : Act} {Q : Exit → Act → World → Prop} (hgd : o.guard = none) (s x : Operand)
    (ho : o.op = .call { callee := .builtin .append, args := #[s, x], argTypes := #[66, 66] })
    (base : Nat) (sp : Option Addr) (n c : Nat) (rs : List Rf) (hs : a.eval s = .slice sp n c) (hn : rs.length = n) (hown : OwnR base w sp c rs) (B : Nat) (t : Rf) (hx : a.eval x = .slice (some ⟨B, 0, none⟩) 1 1)
    (hB : w.heap[B]? = some (rfObj t)) (hd : RfAt base w t) (hsz : (n + 1) * 72 ≤ 140737488355328) (hbase : base ≤ w.heap.size)
    (hk : ∀ sp' c' w', OwnR base w' sp' c' (rs ++ [t]) → Grew w sp w' sp' → wpList Try.prog ops Q rest (a.put o.dst (.slice sp' (n + 1) c')) w') :
    wpList Try.prog ops Q (o :: rest) a w := by
  subst hn
  refine wpList_plain hgd fun K hK => ?_
  obtain ⟨sp', c', w', hrun, h1, h2⟩ := run_appendR hown B t hB hd hsz hbase o.type
  unfold Oper.wp
  simp [execOp, ho, resolve, invoke, builtin, hs, hx, hrun, Result.andThen]
  exact hK _ _ (hk sp' c' w' h1 h2)
theorem step_appendR {w : World} {ops : Array Oper} {o : Oper} {a : Act} {K : Act → World → Prop} {Q : Exit → Act → World → Prop} {E : Prop} (hgd : o.guard = none) (s x : Operand)
    (ho : o.op = .call { callee := .builtin .append, args := #[s, x], argTypes := #[66, 66] })
    (base : Nat) (sp : Option Addr) (n c : Nat) (rs : List Rf) (hs : a.eval s = .slice sp n c) (hn : rs.length = n) (hown : OwnR base w sp c rs) (B : Nat) (t : Rf) (hx : a.eval x = .slice (some ⟨B, 0, none⟩) 1 1)
    (hB : w.heap[B]? = some (rfObj t)) (hd : RfAt base w t) (hsz : (n + 1) * 72 ≤ 140737488355328) (hbase : base ≤ w.heap.size)
    (hk : ∀ sp' c' w', OwnR base w' sp' c' (rs ++ [t]) → Grew w sp w' sp' → K (a.put o.dst (.slice sp' (n + 1) c')) w') :
    if Region.wanted o (yielded ops a.tmps) = true then Oper.wp Try.prog o a w K Q else E := by
  subst hn
  have hw : Region.wanted o (yielded ops a.tmps) = true := by simp [Region.wanted, hgd]
  rw [if_pos hw]
  obtain ⟨sp', c', w', hrun, h1, h2⟩ := run_appendR hown B t hB hd hsz hbase o.type
  unfold Oper.wp
  simp [execOp, ho, resolve, invoke, builtin, hs, hx, hrun, Result.andThen]
  exact hk sp' c' w' h1 h2
/-- The document's disk: its block, its room, its files. -/
structure RefAt (base : Nat) (w : World) (R room : Nat) (sp : Option Addr) (c : Nat) (rs : List Rf) : Prop where
  box : w.heap[R]? = some (.cells #[.int .i64 (room : Int), .slice sp rs.length c] 68 (0, 0))
  own : OwnR base w sp c rs
  low : base ≤ R
  rise : Rises rs
  few : rs.length ≤ 16
section
variable {base R room : Nat} {w w' : World} {sp : Option Addr} {c : Nat} {rs : List Rf}
theorem RefAt.ltR (h : RefAt base w R room sp c rs) : R < w.heap.size := (Array.getElem?_eq_some_iff.1 h.box).1
theorem RefAt.c0 (h : RefAt base w R room sp c rs) : w.cell? ⟨R, 0, none⟩ = some (.int .i64 (room : Int)) := fcell h.box 0 _ rfl
theorem RefAt.c1 (h : RefAt base w R room sp c rs) : w.cell? ⟨R, 1, none⟩ = some (.slice sp rs.length c) := fcell h.box 1 _ rfl
theorem RefAt.z1 (h : RefAt base w R room sp c rs) : w.frozen? ⟨R, 1, none⟩ = false := ffree h.box 1
theorem RefAt.same (h : RefAt base w R room sp c rs) (hR : w'.heap[R]? = w.heap[R]?) (hs : ∀ g, footR sp rs g → w'.heap[g]? = w.heap[g]?) : RefAt base w' R room sp c rs := ⟨hR.trans h.box, h.own.same hs, h.low, h.rise, h.few⟩
theorem RefAt.later (h : RefAt base w R room sp c rs) (hb : Below w.heap.size w w') : RefAt base w' R room sp c rs := ⟨(hb.block R h.ltR).trans h.box, h.own.later hb, h.low, h.rise, h.few⟩
theorem RefAt.drew (h : RefAt base w R room sp c rs) : RefAt base w.drew R room sp c rs := h.same rfl (fun _ _ => rfl)
/-- The list is another one. -/
theorem RefAt.set (h : RefAt base w R room sp c rs) (sp' : Option Addr) (c' : Nat) (rs' : List Rf) (ho : OwnR base w sp' c' rs') (hr : Rises rs') (hf : rs'.length ≤ 16) : RefAt base (w.setCell ⟨R, 1, none⟩ (.slice sp' rs'.length c')) R room sp' c' rs' := by
  refine ⟨?_, ho.same (fun g hg => heap_setCell_other _ ⟨R, 1, none⟩ g _ (fun e => ?_)), h.low, hr, hf⟩
  · rw [heap_setCell_same w R 1 _ 68 _ h.box]
    rfl
  · have e2 : g = R := e
    rw [e2] at hg
    rcases hg with hg | ⟨x, hx, hg | hg⟩
    · obtain ⟨_, _, cur, hc⟩ := own_is ho.row R hg
      rw [h.box] at hc; simp at hc
    · obtain ⟨_, _, cur, hc⟩ := (ho.dat x hx).sure.isT R hg
      rw [h.box] at hc; simp at hc
    · obtain ⟨_, _, cur, hc⟩ := own_is (ho.dat x hx).units R hg
      rw [h.box] at hc; simp at hc
/-- How find ends. -/
def FindEnd (rs : List Rf) (k : Nm) (e : Ending) : Prop := (∃ i, ∃ hi : i < rs.length, rs[i].1 = k ∧ e = .returned (.int .i64 (i : Int))) ∨ (k ∉ rs.map (·.1) ∧ e = .returned (.int .i64 (-1)))
set_option maxHeartbeats 4000000 in
theorem rfind_calls (h : RefAt base w R room sp c rs) (s : ByteArray) :
    Calls Try.prog 45 #[.pointer (some ⟨R, 0, none⟩), .string s] w fun e w' => w' = w ∧ FindEnd rs s.data.toList e := by
  have c1 := h.c1
  have H := hide h
  have h16 := h.few
  clear h
  obtain ⟨n, hn⟩ : ∃ n, rs.length = n := ⟨_, rfl⟩
  rw [hn] at c1 h16
  have HN := hide hn
  clear hn
  go_enter Try.func45, Try.ntmps45
  go_wp2_with fail
  go_loopw [5] (fun i wr => ∃ j : Nat, j ≤ n ∧ i = .int .i64 (j : Int) ∧ Hid (s.data.toList ∉ (rs.take j).map (·.1)) ∧ Hid (wr = w)) (fun i _ => n - (intOf i).toNat)
  case atStart => exact ⟨0, by omega, rfl, hide (by simp), hide rfl⟩
  case round =>
    obtain ⟨j, hj, rfl, HM, HW⟩ := hrel
    have hW := unhide HW
    subst hW
    by_cases hjn : j < n
    · have y1 : (j : Int) < (n : Int) := by omega
      have y0 : (0 : Int) ≤ (j : Int) := by omega
      have hjr : j < rs.length := by rw [unhide HN]; exact hjn
      obtain ⟨g, rfl, p0, _⟩ := (unhide H).own.cells j hjr
      by_cases he : rs[j].1 = s.data.toList
      · have E1 := hide he
        rw [he, show str s.data.toList = s from by cases s; simp [str]] at p0
        clear he
        go_wp2
        go_ret
        exact ⟨rfl, .inl ⟨j, hjr, unhide E1, rfl⟩⟩
      · have hne : ((str rs[j].1).toList == s.toList) = false := by
          rw [ByteArray.toList_eq, ByteArray.toList_eq, str_list]; simpa using he
        have M2 := hide (show s.data.toList ∉ (rs.take (j + 1)).map (·.1) by
          rw [List.take_succ_eq_append_getElem hjr, List.map_append, List.mem_append, not_or]
          exact ⟨unhide HM, by simpa using fun e => he e.symm⟩)
        clear he
        generalize rs[j].1 = t at *
        go_wp2
        exact ⟨⟨j + 1, by omega, by go_num, unhide M2, by first | exact hide trivial | exact hide rfl⟩, by simp [intOf]; omega⟩
    · have y1 : ¬ (j : Int) < (n : Int) := by omega
      have M2 := hide (show s.data.toList ∉ rs.map (·.1) by
        have := unhide HM
        rw [List.take_of_length_le (by rw [unhide HN]; omega)] at this
        exact this)
      go_wp2
      go_ret
      exact ⟨rfl, .inr ⟨unhide M2, rfl⟩⟩
end
theorem putF_pre {α : Type} {k : Nm} {v : α} : ∀ (p r : List (Nm × α)), (∀ y ∈ p, y.1 < k) → putF k v (p ++ r) = p ++ putF k v r
  | [], _, _ => rfl
  | x :: p, r, h => by
    have e : putF k v (x :: (p ++ r)) = if x.1 < k then x :: putF k v (p ++ r) else if x.1 = k then (k, v) :: (p ++ r) else (k, v) :: x :: (p ++ r) := rfl
    show putF k v (x :: (p ++ r)) = _
    rw [e, if_pos (h x List.mem_cons_self), putF_pre p r (fun y hy => h y (List.mem_cons_of_mem _ hy))]
    rfl
theorem putF_snoc {α : Type} {k : Nm} {v : α} (z : Nm × α) : ∀ (p : List (Nm × α)), Rises (p ++ [z]) → (∃ y ∈ p, ¬ y.1 < k) → putF k v (p ++ [z]) = putF k v p ++ [z] ∧ z.1 ≠ k
  | [], _, h => by obtain ⟨y, hy, _⟩ := h; simp at hy
  | x :: p, hr, h => by
    have h1 := List.pairwise_cons.1 (show (x :: (p ++ [z])).Pairwise _ from hr)
    have hxz : x.1 < z.1 := h1.1 z (by simp)
    show putF k v (x :: (p ++ [z])) = putF k v (x :: p) ++ [z] ∧ _
    unfold putF
    by_cases hx : x.1 < k
    · rw [if_pos hx, if_pos hx]
      obtain ⟨y, hy, hyk⟩ := h
      rcases List.mem_cons.1 hy with rfl | hy
      · exact absurd hx hyk
      · obtain ⟨e1, e2⟩ := putF_snoc (v := v) z p h1.2 ⟨y, hy, hyk⟩
        rw [e1]
        exact ⟨rfl, e2⟩
    · rw [if_neg hx, if_neg hx]
      have hzk : z.1 ≠ k := fun e => by
        rw [e] at hxz
        exact hx hxz
      refine ⟨?_, hzk⟩
      split <;> rfl
def PutInv (nm : Nm) (v : RV) (rs : List Rf) (j : Nat) (dn : Bool) (out : List Rf) : Prop :=
  (dn = false ∧ out = rs.take j ∧ ∀ y ∈ rs.take j, y.1 < nm) ∨ (dn = true ∧ out = putF nm v (rs.take j) ∧ ∃ y ∈ rs.take j, ¬ y.1 < nm)
theorem PutInv.end_ {nm : Nm} {v : RV} {rs : List Rf} {dn : Bool} {out : List Rf} (h : PutInv nm v rs rs.length dn out) : (dn = true ∧ out = putF nm v rs) ∨ (dn = false ∧ out ++ [(nm, v)] = putF nm v rs) := by
  unfold PutInv at h
  rw [List.take_length] at h
  rcases h with ⟨h1, h2, h3⟩ | ⟨h1, h2, _⟩
  · refine .inr ⟨h1, ?_⟩
    have := putF_pre (k := nm) (v := v) rs [] h3
    rw [List.append_nil] at this
    rw [this, h2]
    rfl
  · exact .inl ⟨h1, h2⟩
theorem str_of' (s : ByteArray) : str s.data.toList = s := by
  cases s; simp [str]
set_option maxRecDepth 20000 in
set_option maxHeartbeats 40000000 in
theorem rput_calls (base : Nat) (w : World) (sp : Option Addr) (c : Nat) (rs : List Rf) (x : Rf) (h : OwnR base w sp c rs) (hr : Rises rs) (hf : rs.length ≤ 16) (hx : RfAt base w x) (hbs : base ≤ w.heap.size) :
    Calls Try.prog 59 #[.slice sp rs.length c, rfVal x] w fun e w' => ∃ sp' n' c', e = .returned (.slice sp' n' c') ∧ (putF x.1 x.2 rs).length = n' ∧ OwnR base w' sp' c' (putF x.1 x.2 rs) ∧ (∀ g, blk sp' = some g → w.heap.size ≤ g) ∧ Below w.heap.size w w' := by
  obtain ⟨nm, s, yp, yc, up, uc⟩ := x
  have b1 : Below w.heap.size w (w.alloc (rfObj (nm, ⟨s, yp, yc, up, uc⟩))) := (Below.refl _ _).alloc (Nat.le_refl _) _
  have hs1 : (w.alloc (rfObj (nm, ⟨s, yp, yc, up, uc⟩))).heap.size = w.heap.size + 1 := by simp
  have b2 : Below (w.heap.size + 1) (w.alloc (rfObj (nm, ⟨s, yp, yc, up, uc⟩))) ((w.alloc (rfObj (nm, ⟨s, yp, yc, up, uc⟩))).alloc (.cells #[] 80)) := by
    have := (Below.refl (w.alloc (rfObj (nm, ⟨s, yp, yc, up, uc⟩))).heap.size (w.alloc (rfObj (nm, ⟨s, yp, yc, up, uc⟩)))).alloc (Nat.le_refl _) (.cells #[] 80)
    rw [hs1] at this
    exact this
  have O0 := hide (OwnR.empty (w.alloc (rfObj (nm, ⟨s, yp, yc, up, uc⟩))) (w.heap.size + 1) (by omega))
  rw [hs1] at O0
  have B1 := hide b1
  have B2 := hide b2
  have XC := hide (show ∀ W : World, Below (w.heap.size + 1) (w.alloc (rfObj (nm, ⟨s, yp, yc, up, uc⟩))) W → W.heap[w.heap.size]? = some (rfObj (nm, ⟨s, yp, yc, up, uc⟩)) from fun W b => by
    rw [b.block w.heap.size (by omega)]
    exact heap_new w _)
  have H := hide h
  have HX := hide hx
  have HR := hide hr
  have HS := hide hbs
  have hKK : (putF nm (⟨s, yp, yc, up, uc⟩ : RV) rs).length ≤ 17 := by
    rw [putF_length hr]; split <;> omega
  have HF := hide hf
  unfold rfVal
  clear h hx hr hbs b1 b2 hs1
  simp only
  generalize hn : rs.length = n at *
  have HN := hide hn
  clear hn
  have XCC := hide (show ∀ W : World, Below (w.heap.size + 1) (w.alloc (rfObj (nm, ⟨s, yp, yc, up, uc⟩))) W → W.cell? ⟨w.heap.size, 0, none⟩ = some (.string (str nm)) ∧ W.cell? ⟨w.heap.size, 1, none⟩ = some (.bool s.la) ∧ W.cell? ⟨w.heap.size, 2, none⟩ = some (.slice yp s.y.length yc) ∧ W.cell? ⟨w.heap.size, 3, none⟩ = some (.slice up s.us.length uc) from fun W b => by
    have hh := unhide XC W b
    exact ⟨fcell hh 0 _ rfl, fcell hh 1 _ rfl, fcell hh 2 _ rfl, fcell hh 3 _ rfl⟩)
  have RC := hide (show ∀ W : World, Below (w.heap.size + 1) (w.alloc (rfObj (nm, ⟨s, yp, yc, up, uc⟩))) W → OwnR base W sp c rs ∧ RfAt base W (nm, ⟨s, yp, yc, up, uc⟩) ∧ w.heap.size + 1 ≤ W.heap.size from fun W b => by
    have b3 := (unhide B1).trans (b.mono (by omega))
    have e : (w.alloc (rfObj (nm, ⟨s, yp, yc, up, uc⟩))).heap.size = w.heap.size + 1 := by simp
    exact ⟨(unhide H).later b3, (unhide HX).later b3, by rw [← e]; exact b.size⟩)
  have O0' := hide (show OwnR base ((w.alloc (rfObj (nm, ⟨s, yp, yc, up, uc⟩))).alloc (.cells #[] 80)) (some ⟨w.heap.size + 1, 0, none⟩) 0 [] from ⟨own_mono (unhide O0).row (by have := unhide HS; omega), by simp⟩)
  unfold rfObj at O0' B2 XC B1 RC XCC
  clear O0
  go_enter Try.func59, Try.ntmps59
  go_wp2_with fail
  generalize w.alloc (.cells #[.string (str nm), .bool s.la, .slice yp s.y.length yc, .slice up s.us.length uc] 80) = V1 at *
  have VS := hide (unhide RC V1 (Below.refl _ _)).2.2
  go_loopw [5, 6, 7] (fun v5 v6 v7 wr => ∃ (j m : Nat) (op : Option Addr) (oc : Nat) (dn : Bool) (out : List Rf), j ≤ n ∧ m ≤ j + 1 ∧ v5 = .slice op m oc ∧ v6 = .bool dn ∧ v7 = .int .i64 (j : Int) ∧ Hid (out.length = m) ∧ Hid (OwnR base wr op oc out) ∧ Hid (∀ g, blk op = some g → w.heap.size + 1 ≤ g) ∧ Hid (PutInv nm ⟨s, yp, yc, up, uc⟩ rs j dn out) ∧ Hid (Below (w.heap.size + 1) V1 wr)) (fun _ _ v7 _ => n - (intOf v7).toNat)
  case atStart => exact ⟨0, 0, _, 0, false, [], by omega, by omega, rfl, rfl, rfl, rfl, O0', hide (fun g hg => by simp [blk] at hg; omega), hide (.inl ⟨rfl, rfl, by simp⟩), B2⟩
  case round =>
    obtain ⟨j, m, op, oc, dn, out, hj, hmj, rfl, rfl, rfl, HM, HO, HG, HP, HB⟩ := hrel
    by_cases hjn : j < n
    · have y1 : (j : Int) < (n : Int) := by omega
      have y0 : (0 : Int) ≤ (j : Int) := by omega
      have hjr : j < rs.length := by rw [unhide HN]; exact hjn
      obtain ⟨g, rfl, p0, p1, p2, p3⟩ := (unhide RC wr (unhide HB)).1.cells j hjr
      obtain ⟨x0, x1, x2, x3⟩ := unhide XCC wr (unhide HB)
      have ZM := hide (List.getElem_mem hjr)
      have TK := hide (List.take_succ_eq_append_getElem hjr)
      have RT := hide (show Rises (rs.take (j + 1)) from (unhide HR).sublist (List.take_sublist _ _))
      have PC := hide (show ∀ W, Below (w.heap.size + 1) V1 W → W.cell? ⟨g, j * 4, none⟩ = some (.string (str rs[j].1)) ∧ W.cell? ⟨g, j * 4 + 1, none⟩ = some (.bool rs[j].2.s.la) ∧ W.cell? ⟨g, j * 4 + 2, none⟩ = some (.slice rs[j].2.yp rs[j].2.s.y.length rs[j].2.yc) ∧ W.cell? ⟨g, j * 4 + 3, none⟩ = some (.slice rs[j].2.up rs[j].2.s.us.length rs[j].2.uc) from fun W b => by
        obtain ⟨g', e', q⟩ := (unhide RC W b).1.cells j hjr
        obtain rfl : g = g' := by simpa using e'
        exact q)
      generalize rs[j] = z at *
      cases dn with
      | false =>
        have hP : out = rs.take j ∧ ∀ y ∈ rs.take j, y.1 < nm := by
          rcases unhide HP with ⟨_, h2⟩ | ⟨h1, _⟩
          · exact h2
          · cases h1
        have hmj2 : m ≤ j := by rw [← unhide HM, hP.1, List.length_take]; omega
        have PE := hide (show putF nm (⟨s, yp, yc, up, uc⟩ : RV) (rs.take (j + 1)) = out ++ putF nm ⟨s, yp, yc, up, uc⟩ [z] by rw [unhide TK, hP.1]; exact putF_pre _ _ hP.2)
        rcases nm_tri z.1 nm with hlt | heq | hgt
        · have z1 : Op.bytesLess (str z.1).toList (str nm).toList = true := by
            rw [bytesLess_eq, ByteArray.toList_eq, ByteArray.toList_eq, str_list, str_list, decide_eq_true_eq]; exact hlt
          have z2 : ((str z.1).toList == (str nm).toList) = false := by
            rw [ByteArray.toList_eq, ByteArray.toList_eq, str_list, str_list]
            simp only [beq_eq_false_iff_ne]
            exact fun hh => nm_irrefl _ (hh ▸ hlt)
          have P2 := hide (show PutInv nm ⟨s, yp, yc, up, uc⟩ rs (j + 1) false (out ++ [z]) from .inl ⟨rfl, by rw [hP.1, unhide TK], fun y hy => by
            rw [unhide TK, List.mem_append] at hy
            rcases hy with hy | hy
            · exact hP.2 y hy
            · obtain rfl : y = z := by simpa using hy
              exact hlt⟩)
          clear hP hlt
          go_wp2_with fail
          go_quiet (fail)
          go_wp2_with fail
          go_quiet (fail)
          have AZ9 := hide (show Below wr.heap.size wr (wr.alloc (rfObj z)) from (Below.refl _ _).alloc (Nat.le_refl _) _)
          have OZ9 := hide ((unhide HO).later (unhide AZ9))
          have BZ9 := hide ((unhide HB).trans ((unhide AZ9).mono (unhide RC _ (unhide HB)).2.2))
          have XZ9 := hide (heap_new wr (rfObj z))
          have DZ9 := hide ((unhide RC _ (unhide BZ9)).1.dat z (unhide ZM))
          have SZ9 := hide (show base ≤ (wr.alloc (rfObj z)).heap.size from Nat.le_trans (by have := unhide HS; omega) (unhide RC _ (unhide BZ9)).2.2)
          unfold rfObj at AZ9 OZ9 BZ9 DZ9 SZ9
          go_wp2_with (at_builtin; refine wpList_appendR rfl (.tmp 39) (.tmp 44) rfl base op m oc out rfl (unhide HM) (by exact (unhide OZ9).same (fun _ _ => rfl)) wr.heap.size z rfl (by exact unhide XZ9) (by exact (unhide DZ9).same (fun _ _ => rfl)) (by omega) (by exact unhide SZ9) ?_; intro sp9 c9 V9 hO9 hG9; refine unhide ?_)
          refine hide ?_
          have O9 := hide hO9
          have B9' := hide (show Below (w.heap.size + 1) V1 V9 from (unhide BZ9).grown ⟨hG9.grown.os, hG9.grown.tape, hG9.grown.output, hG9.grown.size, hG9.grown.block⟩ (unhide RC _ (unhide BZ9)).2.2 (fun g' hg' => unhide HG g' hg'))
          have G9 := hide (show ∀ g, blk sp9 = some g → w.heap.size + 1 ≤ g from fun g hg => by
            rcases hG9.lies g hg with h1 | h1
            · exact unhide HG g h1
            · exact Nat.le_trans (unhide RC _ (unhide BZ9)).2.2 h1)
          clear hO9 hG9
          go_wp2
          exact ⟨⟨j + 1, m + 1, sp9, c9, false, out ++ [z], by omega, by omega, rfl, rfl, by go_num, by rw [List.length_append, unhide HM]; rfl, unhide O9, unhide G9, unhide P2, unhide B9'⟩, by simp [intOf]; omega⟩
        · have z1 : Op.bytesLess (str z.1).toList (str nm).toList = false := by
            rw [bytesLess_eq, ByteArray.toList_eq, ByteArray.toList_eq, str_list, str_list, decide_eq_false_iff_not, heq]; exact nm_irrefl _
          have z2 : ((str z.1).toList == (str nm).toList) = true := by
            rw [ByteArray.toList_eq, ByteArray.toList_eq, str_list, str_list, heq]; simp
          have P2 := hide (show PutInv nm ⟨s, yp, yc, up, uc⟩ rs (j + 1) true (out ++ [(nm, ⟨s, yp, yc, up, uc⟩)]) from .inr ⟨rfl, by
            rw [unhide PE]
            simp [putF, heq, nm_irrefl], z, by rw [unhide TK]; simp, by rw [heq]; exact nm_irrefl _⟩)
          clear hP heq
          go_wp2_with fail
          go_quiet (fail)
          have AZ5 := hide (show Below wr.heap.size wr (wr.alloc (rfObj (nm, ⟨s, yp, yc, up, uc⟩))) from (Below.refl _ _).alloc (Nat.le_refl _) _)
          have OZ5 := hide ((unhide HO).later (unhide AZ5))
          have BZ5 := hide ((unhide HB).trans ((unhide AZ5).mono (unhide RC _ (unhide HB)).2.2))
          have XZ5 := hide (heap_new wr (rfObj (nm, ⟨s, yp, yc, up, uc⟩)))
          have DZ5 := hide ((unhide RC _ (unhide BZ5)).2.1)
          have SZ5 := hide (show base ≤ (wr.alloc (rfObj (nm, ⟨s, yp, yc, up, uc⟩))).heap.size from Nat.le_trans (by have := unhide HS; omega) (unhide RC _ (unhide BZ5)).2.2)
          unfold rfObj at AZ5 OZ5 BZ5 DZ5 SZ5
          go_wp2_with (at_builtin; refine wpList_appendR rfl (.tmp 27) (.tmp 29) rfl base op m oc out rfl (unhide HM) (by exact (unhide OZ5).same (fun _ _ => rfl)) wr.heap.size (nm, ⟨s, yp, yc, up, uc⟩) rfl (by exact unhide XZ5) (by exact (unhide DZ5).same (fun _ _ => rfl)) (by omega) (by exact unhide SZ5) ?_; intro sp5 c5 V5 hO5 hG5; refine unhide ?_)
          refine hide ?_
          have O5 := hide hO5
          have B5' := hide (show Below (w.heap.size + 1) V1 V5 from (unhide BZ5).grown ⟨hG5.grown.os, hG5.grown.tape, hG5.grown.output, hG5.grown.size, hG5.grown.block⟩ (unhide RC _ (unhide BZ5)).2.2 (fun g' hg' => unhide HG g' hg'))
          have G5 := hide (show ∀ g, blk sp5 = some g → w.heap.size + 1 ≤ g from fun g hg => by
            rcases hG5.lies g hg with h1 | h1
            · exact unhide HG g h1
            · exact Nat.le_trans (unhide RC _ (unhide BZ5)).2.2 h1)
          clear hO5 hG5
          obtain ⟨p0, p1, p2, p3⟩ := unhide PC V5 (unhide B5')
          obtain ⟨x0, x1, x2, x3⟩ := unhide XCC V5 (unhide B5')
          go_wp2_with fail
          go_quiet (fail)
          go_wp2
          exact ⟨⟨j + 1, m + 1, sp5, c5, true, out ++ [((nm, ⟨s, yp, yc, up, uc⟩) : Rf)], by omega, by omega, rfl, rfl, by go_num, by rw [List.length_append, unhide HM]; rfl, hide ((unhide O5).same (fun _ _ => rfl)), unhide G5, unhide P2, below_drewN (unhide B5') _⟩, by simp [intOf]; omega⟩
        · have z1 : Op.bytesLess (str z.1).toList (str nm).toList = false := by
            rw [bytesLess_eq, ByteArray.toList_eq, ByteArray.toList_eq, str_list, str_list, decide_eq_false_iff_not]; exact fun hh => nm_irrefl _ (nm_trans hh hgt)
          have z2 : ((str z.1).toList == (str nm).toList) = false := by
            rw [ByteArray.toList_eq, ByteArray.toList_eq, str_list, str_list]
            simp only [beq_eq_false_iff_ne]
            exact fun hh => nm_irrefl _ (hh ▸ hgt)
          have P2 := hide (show PutInv nm ⟨s, yp, yc, up, uc⟩ rs (j + 1) true ((out ++ [(nm, ⟨s, yp, yc, up, uc⟩)]) ++ [z]) from .inr ⟨rfl, by
            rw [unhide PE]
            have h1 : ¬ z.1 < nm := fun hh => nm_irrefl _ (nm_trans hh hgt)
            have h2 : ¬ z.1 = nm := fun hh => nm_irrefl _ (hh ▸ hgt)
            simp [putF, h1, h2], z, by rw [unhide TK]; simp, fun hh => nm_irrefl _ (nm_trans hh hgt)⟩)
          clear hP hgt
          go_wp2_with fail
          go_quiet (fail)
          have AZ5 := hide (show Below wr.heap.size wr (wr.alloc (rfObj (nm, ⟨s, yp, yc, up, uc⟩))) from (Below.refl _ _).alloc (Nat.le_refl _) _)
          have OZ5 := hide ((unhide HO).later (unhide AZ5))
          have BZ5 := hide ((unhide HB).trans ((unhide AZ5).mono (unhide RC _ (unhide HB)).2.2))
          have XZ5 := hide (heap_new wr (rfObj (nm, ⟨s, yp, yc, up, uc⟩)))
          have DZ5 := hide ((unhide RC _ (unhide BZ5)).2.1)
          have SZ5 := hide (show base ≤ (wr.alloc (rfObj (nm, ⟨s, yp, yc, up, uc⟩))).heap.size from Nat.le_trans (by have := unhide HS; omega) (unhide RC _ (unhide BZ5)).2.2)
          unfold rfObj at AZ5 OZ5 BZ5 DZ5 SZ5
          go_wp2_with (at_builtin; refine wpList_appendR rfl (.tmp 27) (.tmp 29) rfl base op m oc out rfl (unhide HM) (by exact (unhide OZ5).same (fun _ _ => rfl)) wr.heap.size (nm, ⟨s, yp, yc, up, uc⟩) rfl (by exact unhide XZ5) (by exact (unhide DZ5).same (fun _ _ => rfl)) (by omega) (by exact unhide SZ5) ?_; intro sp5 c5 V5 hO5 hG5; refine unhide ?_)
          refine hide ?_
          have O5 := hide hO5
          have B5' := hide (show Below (w.heap.size + 1) V1 V5 from (unhide BZ5).grown ⟨hG5.grown.os, hG5.grown.tape, hG5.grown.output, hG5.grown.size, hG5.grown.block⟩ (unhide RC _ (unhide BZ5)).2.2 (fun g' hg' => unhide HG g' hg'))
          have G5 := hide (show ∀ g, blk sp5 = some g → w.heap.size + 1 ≤ g from fun g hg => by
            rcases hG5.lies g hg with h1 | h1
            · exact unhide HG g h1
            · exact Nat.le_trans (unhide RC _ (unhide BZ5)).2.2 h1)
          clear hO5 hG5
          obtain ⟨p0, p1, p2, p3⟩ := unhide PC V5 (unhide B5')
          obtain ⟨x0, x1, x2, x3⟩ := unhide XCC V5 (unhide B5')
          go_wp2_with fail
          go_quiet (fail)
          have AZ9 := hide (show Below V5.heap.size V5 (V5.alloc (rfObj z)) from (Below.refl _ _).alloc (Nat.le_refl _) _)
          have OZ9 := hide ((unhide O5).later (unhide AZ9))
          have BZ9 := hide ((unhide B5').trans ((unhide AZ9).mono (unhide RC _ (unhide B5')).2.2))
          have XZ9 := hide (heap_new V5 (rfObj z))
          have DZ9 := hide ((unhide RC _ (unhide BZ9)).1.dat z (unhide ZM))
          have SZ9 := hide (show base ≤ (V5.alloc (rfObj z)).heap.size from Nat.le_trans (by have := unhide HS; omega) (unhide RC _ (unhide BZ9)).2.2)
          unfold rfObj at AZ9 OZ9 BZ9 DZ9 SZ9
          go_wp2_with (at_builtin; refine wpList_appendR rfl (.tmp 39) (.tmp 44) rfl base sp5 (m + 1) c5 (out ++ [(nm, ⟨s, yp, yc, up, uc⟩)]) rfl (by rw [List.length_append, unhide HM]; rfl) (by exact (unhide OZ9).same (fun _ _ => rfl)) V5.heap.size z rfl (by exact unhide XZ9) (by exact (unhide DZ9).same (fun _ _ => rfl)) (by omega) (by exact unhide SZ9) ?_; intro sp9 c9 V9 hO9 hG9; refine unhide ?_)
          refine hide ?_
          have O9 := hide hO9
          have B9' := hide (show Below (w.heap.size + 1) V1 V9 from (unhide BZ9).grown ⟨hG9.grown.os, hG9.grown.tape, hG9.grown.output, hG9.grown.size, hG9.grown.block⟩ (unhide RC _ (unhide BZ9)).2.2 (fun g' hg' => unhide G5 g' hg'))
          have G9 := hide (show ∀ g, blk sp9 = some g → w.heap.size + 1 ≤ g from fun g hg => by
            rcases hG9.lies g hg with h1 | h1
            · exact unhide G5 g h1
            · exact Nat.le_trans (unhide RC _ (unhide BZ9)).2.2 h1)
          clear hO9 hG9
          go_wp2
          exact ⟨⟨j + 1, m + 1 + 1, sp9, c9, true, (out ++ [((nm, ⟨s, yp, yc, up, uc⟩) : Rf)]) ++ [z], by omega, by omega, rfl, rfl, by go_num, by rw [List.length_append, List.length_append, unhide HM]; rfl, unhide O9, unhide G9, unhide P2, unhide B9'⟩, by simp [intOf]; omega⟩
      | true =>
          have hP : out = putF nm ⟨s, yp, yc, up, uc⟩ (rs.take j) ∧ ∃ y ∈ rs.take j, ¬ y.1 < nm := by
            rcases unhide HP with ⟨h1, _⟩ | ⟨_, h2⟩
            · cases h1
            · exact h2
          obtain ⟨hp1, hp2⟩ := putF_snoc (k := nm) (v := (⟨s, yp, yc, up, uc⟩ : RV)) z (rs.take j) (by rw [← unhide TK]; exact unhide RT) hP.2
          have z2 : ((str z.1).toList == (str nm).toList) = false := by
            rw [ByteArray.toList_eq, ByteArray.toList_eq, str_list, str_list]
            simp only [beq_eq_false_iff_ne]
            exact hp2
          have P2 := hide (show PutInv nm ⟨s, yp, yc, up, uc⟩ rs (j + 1) true (out ++ [z]) from .inr ⟨rfl, by rw [unhide TK, hp1, hP.1], by
            obtain ⟨y, hy, hyn⟩ := hP.2
            exact ⟨y, by rw [unhide TK]; exact List.mem_append_left _ hy, hyn⟩⟩)
          clear hP hp1 hp2
          go_wp2_with fail
          go_quiet (fail)
          go_wp2_with fail
          go_quiet (fail)
          have AZ9 := hide (show Below wr.heap.size wr (wr.alloc (rfObj z)) from (Below.refl _ _).alloc (Nat.le_refl _) _)
          have OZ9 := hide ((unhide HO).later (unhide AZ9))
          have BZ9 := hide ((unhide HB).trans ((unhide AZ9).mono (unhide RC _ (unhide HB)).2.2))
          have XZ9 := hide (heap_new wr (rfObj z))
          have DZ9 := hide ((unhide RC _ (unhide BZ9)).1.dat z (unhide ZM))
          have SZ9 := hide (show base ≤ (wr.alloc (rfObj z)).heap.size from Nat.le_trans (by have := unhide HS; omega) (unhide RC _ (unhide BZ9)).2.2)
          unfold rfObj at AZ9 OZ9 BZ9 DZ9 SZ9
          go_wp2_with (at_builtin; refine wpList_appendR rfl (.tmp 39) (.tmp 44) rfl base op m oc out rfl (unhide HM) (by exact (unhide OZ9).same (fun _ _ => rfl)) wr.heap.size z rfl (by exact unhide XZ9) (by exact (unhide DZ9).same (fun _ _ => rfl)) (by omega) (by exact unhide SZ9) ?_; intro sp9 c9 V9 hO9 hG9; refine unhide ?_)
          refine hide ?_
          have O9 := hide hO9
          have B9' := hide (show Below (w.heap.size + 1) V1 V9 from (unhide BZ9).grown ⟨hG9.grown.os, hG9.grown.tape, hG9.grown.output, hG9.grown.size, hG9.grown.block⟩ (unhide RC _ (unhide BZ9)).2.2 (fun g' hg' => unhide HG g' hg'))
          have G9 := hide (show ∀ g, blk sp9 = some g → w.heap.size + 1 ≤ g from fun g hg => by
            rcases hG9.lies g hg with h1 | h1
            · exact unhide HG g h1
            · exact Nat.le_trans (unhide RC _ (unhide BZ9)).2.2 h1)
          clear hO9 hG9
          go_wp2
          exact ⟨⟨j + 1, m + 1, sp9, c9, true, out ++ [z], by omega, by omega, rfl, rfl, by go_num, by rw [List.length_append, unhide HM]; rfl, unhide O9, unhide G9, unhide P2, unhide B9'⟩, by simp [intOf]; omega⟩
    · have y1 : ¬ (j : Int) < (n : Int) := by omega
      have hjr : j = rs.length := by rw [unhide HN]; omega
      have PE := hide (PutInv.end_ (hjr ▸ unhide HP))
      clear hjr
      cases dn with
      | true =>
          have E1 := hide (show out = putF nm ⟨s, yp, yc, up, uc⟩ rs by
            rcases unhide PE with ⟨_, h⟩ | ⟨h, _⟩
            · exact h
            · cases h)
          go_wp2
          go_ret
          exact ⟨op, m, oc, rfl, by rw [← unhide E1]; exact unhide HM, by rw [← unhide E1]; exact unhide HO, fun g hg => by have := unhide HG g hg; omega, (unhide B1).trans ((unhide HB).mono (by omega))⟩
      | false =>
          have E1 := hide (show out ++ [(nm, ⟨s, yp, yc, up, uc⟩)] = putF nm ⟨s, yp, yc, up, uc⟩ rs by
            rcases unhide PE with ⟨h, _⟩ | ⟨_, h⟩
            · cases h
            · exact h)
          obtain ⟨x0, x1, x2, x3⟩ := unhide XCC wr (unhide HB)
          have AZ5 := hide (show Below wr.heap.size wr (wr.alloc (rfObj (nm, ⟨s, yp, yc, up, uc⟩))) from (Below.refl _ _).alloc (Nat.le_refl _) _)
          have OZ5 := hide ((unhide HO).later (unhide AZ5))
          have BZ5 := hide ((unhide HB).trans ((unhide AZ5).mono (unhide RC _ (unhide HB)).2.2))
          have XZ5 := hide (heap_new wr (rfObj (nm, ⟨s, yp, yc, up, uc⟩)))
          have DZ5 := hide ((unhide RC _ (unhide BZ5)).2.1)
          have SZ5 := hide (show base ≤ (wr.alloc (rfObj (nm, ⟨s, yp, yc, up, uc⟩))).heap.size from Nat.le_trans (by have := unhide HS; omega) (unhide RC _ (unhide BZ5)).2.2)
          unfold rfObj at AZ5 OZ5 BZ5 DZ5 SZ5
          go_wp2_with (at_builtin; refine wpList_appendR rfl (.tmp 48) (.tmp 50) rfl base op m oc out rfl (unhide HM) (by exact (unhide OZ5).same (fun _ _ => rfl)) wr.heap.size (nm, ⟨s, yp, yc, up, uc⟩) rfl (by exact unhide XZ5) (by exact (unhide DZ5).same (fun _ _ => rfl)) (by omega) (by exact unhide SZ5) ?_; intro sp5 c5 V5 hO5 hG5; refine unhide ?_)
          refine hide ?_
          have O5 := hide hO5
          have B5' := hide (show Below (w.heap.size + 1) V1 V5 from (unhide BZ5).grown ⟨hG5.grown.os, hG5.grown.tape, hG5.grown.output, hG5.grown.size, hG5.grown.block⟩ (unhide RC _ (unhide BZ5)).2.2 (fun g' hg' => unhide HG g' hg'))
          have G5 := hide (show ∀ g, blk sp5 = some g → w.heap.size + 1 ≤ g from fun g hg => by
            rcases hG5.lies g hg with h1 | h1
            · exact unhide HG g h1
            · exact Nat.le_trans (unhide RC _ (unhide BZ5)).2.2 h1)
          clear hO5 hG5
          go_wp2
          go_ret
          exact ⟨sp5, m + 1, c5, rfl, by rw [← unhide E1, List.length_append, unhide HM]; rfl, by rw [← unhide E1]; exact unhide O5, fun g hg => by have := unhide G5 g hg; omega, (unhide B1).trans ((unhide B5').mono (by omega))⟩
end Go.Proofs.Ytghdiemihceaoaa
end
/- The document's disk: without, Used, Names. -/
section
namespace Go.Proofs.Ytghdiemihceaoaa
open Go.ChangeShapes Go.WideShapes Go.ChangeAt Go.RowKit Go.Maps

set_option maxRecDepth 20000 in
set_option maxHeartbeats 40000000 in
theorem rwithout_calls (base : Nat) (w : World) (sp : Option Addr) (c : Nat) (rs : List Rf) (s : ByteArray) (h : OwnR base w sp c rs) (hf : rs.length ≤ 16) (hbs : base ≤ w.heap.size) :
    Calls Try.prog 60 #[.slice sp rs.length c, .string s] w fun e w' => ∃ sp' n' c', e = .returned (.slice sp' n' c') ∧ (delF s.data.toList rs).length = n' ∧ OwnR base w' sp' c' (delF s.data.toList rs) ∧ (∀ g, blk sp' = some g → w.heap.size ≤ g) ∧ Below w.heap.size w w' := by
  have B0 := hide (show Below w.heap.size w (w.alloc (.cells #[] 80)) from (Below.refl _ _).alloc (Nat.le_refl _) _)
  have O0 := hide (show OwnR base (w.alloc (.cells #[] 80)) (some ⟨w.heap.size, 0, none⟩) 0 [] from ⟨own_mono (OwnR.empty w w.heap.size (Nat.le_refl _)).row hbs, by simp⟩)
  have RC := hide (show ∀ W : World, Below w.heap.size w W → OwnR base W sp c rs from fun W b => h.later b)
  have HS := hide hbs
  clear h hbs
  obtain ⟨n, hn⟩ : ∃ n, rs.length = n := ⟨_, rfl⟩
  rw [hn] at hf
  rw [hn]
  have HN := hide hn
  clear hn
  go_enter Try.func60, Try.ntmps60
  go_wp2_with fail
  go_loopw [5, 6] (fun v5 v6 wr => ∃ (j m : Nat) (op : Option Addr) (oc : Nat), j ≤ n ∧ m ≤ j ∧ v5 = .slice op m oc ∧ v6 = .int .i64 (j : Int) ∧ Hid ((delF s.data.toList (rs.take j)).length = m) ∧ Hid (OwnR base wr op oc (delF s.data.toList (rs.take j))) ∧ Hid (∀ g, blk op = some g → w.heap.size ≤ g) ∧ Hid (Below w.heap.size w wr)) (fun _ v6 _ => n - (intOf v6).toNat)
  case atStart => exact ⟨0, 0, _, 0, by omega, by omega, rfl, rfl, rfl, O0, hide (fun g hg => by simp [blk] at hg; omega), B0⟩
  case round =>
    obtain ⟨j, m, op, oc, hj, hmj, rfl, rfl, HM, HO, HG, HB⟩ := hrel
    by_cases hjn : j < n
    · have y1 : (j : Int) < (n : Int) := by omega
      have y0 : (0 : Int) ≤ (j : Int) := by omega
      have hjr : j < rs.length := by rw [unhide HN]; exact hjn
      obtain ⟨g, rfl, p0, p1, p2, p3⟩ := (unhide RC wr (unhide HB)).cells j hjr
      have ZM := hide (List.getElem_mem hjr)
      have TK := hide (List.take_succ_eq_append_getElem hjr)
      generalize rs[j] = z at *
      by_cases heq : z.1 = s.data.toList
      · have z2 : ((str z.1).toList == s.toList) = true := by
          rw [ByteArray.toList_eq, ByteArray.toList_eq, str_list, heq]; simp
        have D2 := hide (show delF s.data.toList (rs.take (j + 1)) = delF s.data.toList (rs.take j) by
          rw [unhide TK]; simp [delF, List.filter_append, heq])
        clear heq
        go_wp2
        exact ⟨⟨j + 1, m, op, oc, by omega, by omega, rfl, by go_num, by rw [unhide D2]; exact unhide HM, by rw [unhide D2]; exact unhide HO, HG, HB⟩, by simp [intOf]; omega⟩
      · have z2 : ((str z.1).toList == s.toList) = false := by
          rw [ByteArray.toList_eq, ByteArray.toList_eq, str_list]; simpa using heq
        have D2 := hide (show delF s.data.toList (rs.take (j + 1)) = delF s.data.toList (rs.take j) ++ [z] by
          rw [unhide TK]; simp [delF, List.filter_append, heq])
        clear heq
        have AZ := hide (show Below wr.heap.size wr (wr.alloc (rfObj z)) from (Below.refl _ _).alloc (Nat.le_refl _) _)
        have OZ := hide ((unhide HO).later (unhide AZ))
        have BZ := hide ((unhide HB).trans ((unhide AZ).mono (unhide HB).size))
        have XZ := hide (heap_new wr (rfObj z))
        have DZ := hide ((unhide RC _ (unhide BZ)).dat z (unhide ZM))
        have SZ := hide (show base ≤ (wr.alloc (rfObj z)).heap.size from Nat.le_trans (unhide HS) (unhide BZ).size)
        unfold rfObj at AZ OZ BZ DZ SZ
        go_wp2_with (at_builtin; refine wpList_appendR rfl (.tmp 21) (.tmp 26) rfl base op m oc (delF s.data.toList (rs.take j)) rfl (unhide HM) (by exact unhide OZ) wr.heap.size z rfl (by exact unhide XZ) (by exact unhide DZ) (by omega) (by exact unhide SZ) ?_; intro sp9 c9 V9 hO9 hG9; refine unhide ?_)
        refine hide ?_
        rw [← unhide D2] at hO9
        have O9 := hide hO9
        have B9 := hide (show Below w.heap.size w V9 from (unhide BZ).grown hG9.grown (unhide BZ).size (fun g' hg' => unhide HG g' hg'))
        have G9 := hide (show ∀ g, blk sp9 = some g → w.heap.size ≤ g from fun g hg => by
          rcases hG9.lies g hg with h1 | h1
          · exact unhide HG g h1
          · exact Nat.le_trans (unhide BZ).size h1)
        clear hO9 hG9
        go_wp2
        exact ⟨⟨j + 1, m + 1, sp9, c9, by omega, by omega, rfl, by go_num, by rw [unhide D2, List.length_append, unhide HM]; rfl, unhide O9, unhide G9, unhide B9⟩, by simp [intOf]; omega⟩
    · have y1 : ¬ (j : Int) < (n : Int) := by omega
      have hjr : rs.take j = rs := List.take_of_length_le (by rw [unhide HN]; omega)
      rw [hjr] at HM HO
      clear hjr
      go_wp2
      go_ret
      exact ⟨op, m, oc, rfl, unhide HM, unhide HO, unhide HG, unhide HB⟩
def rss (rs : List Rf) : Ds := rs.map (fun x => (x.1, x.2.s))
section
variable {base R room : Nat} {w w' : World} {sp : Option Addr} {c : Nat} {rs : List Rf}
set_option maxRecDepth 20000 in
set_option maxHeartbeats 40000000 in
theorem rused_calls (h : RefAt base w R room sp c rs) : Calls Try.prog 41 #[.pointer (some ⟨R, 0, none⟩)] w fun e w' => e = .returned (.int .i64 (usedS (rss rs) : Int)) ∧ Below w.heap.size w w' := by
  have RC := hide (show ∀ W : World, Below w.heap.size w W → RefAt base W R room sp c rs from fun W b => h.later b)
  have h16 := h.few
  have N8 := hide (show ∀ x ∈ rs, x.2.s.now.length ≤ 262144 from fun x hx => by
    have := (h.own.dat x hx).ok
    rw [← this.now]; exact this.len _)
  clear h
  obtain ⟨n, hn⟩ : ∃ n, rs.length = n := ⟨_, rfl⟩
  rw [hn] at h16
  have HN := hide hn
  go_enter Try.func41, Try.ntmps41
  go_wp2_with fail
  go_loopw [3, 4] (fun v3 v4 wr => ∃ (j u : Nat), j ≤ n ∧ u ≤ j * 262144 ∧ v3 = .int .i64 (u : Int) ∧ v4 = .int .i64 (j : Int) ∧ Hid (usedS (rss (rs.take j)) = u) ∧ Hid (Below w.heap.size w wr)) (fun _ v4 _ => n - (intOf v4).toNat)
  case atStart => exact ⟨0, 0, by omega, by omega, rfl, rfl, rfl, hide (Below.refl _ _)⟩
  case round =>
    obtain ⟨j, u, hj, hu, rfl, rfl, HU, HB⟩ := hrel
    have c1 := (unhide RC wr (unhide HB)).c1
    rw [hn] at c1
    by_cases hjn : j < n
    · have y1 : (j : Int) < (n : Int) := by omega
      have y0 : (0 : Int) ≤ (j : Int) := by omega
      have hjr : j < rs.length := by omega
      obtain ⟨g, rfl, p0, p1, p2, p3⟩ := (unhide RC wr (unhide HB)).own.cells j hjr
      have NC := hide (now_calls base wr rs[j] ((unhide RC wr (unhide HB)).own.dat _ (List.getElem_mem hjr)))
      have U2 := hide (show usedS (rss (rs.take (j + 1))) = u + rs[j].2.s.now.length by
        rw [List.take_succ_eq_append_getElem hjr, ← unhide HU]
        simp only [rss, usedS, List.map_append, List.map_cons, List.map_nil, List.sum_append_nat, List.sum_cons, List.sum_nil, Nat.add_zero])
      generalize rs[j] = z at *
      obtain ⟨nm, s, yp, yc, up, uc⟩ := z
      unfold rfVal at NC
      simp only at p0 p1 p2 p3 NC U2
      clear hn
      go_wp2_with fail
      refine (unhide NC).mono ?_
      rintro e W ⟨sp2, n2, c2, rfl, hn2, h8, hX, b2⟩
      have B2 := hide ((unhide HB).trans (b2.mono (unhide HB).size))
      have U3 := hide (show usedS (rss (rs.take (j + 1))) = u + n2 by rw [unhide U2, hn2])
      clear hX b2 hn2
      go_wp2
      exact ⟨⟨j + 1, u + n2, by omega, by omega, by go_num, by go_num, unhide U3, unhide B2⟩, by simp [intOf]; omega⟩
    · have y1 : ¬ (j : Int) < (n : Int) := by omega
      have hjr : rs.take j = rs := List.take_of_length_le (by omega)
      rw [hjr] at HU
      clear hjr hn
      go_wp2
      go_ret
      exact ⟨by rw [unhide HU]; rfl, unhide HB⟩
set_option maxRecDepth 20000 in
set_option maxHeartbeats 40000000 in
theorem rnames_calls (h : RefAt base w R room sp c rs) : Calls Try.prog 40 #[.pointer (some ⟨R, 0, none⟩)] w fun e w' => ∃ sp' n' c', e = .returned (.slice sp' n' c') ∧ rs.length = n' ∧ OwnN w.heap.size w' sp' c' (rs.map (·.1)) ∧ Below w.heap.size w w' := by
  have RC := hide (show ∀ W : World, Below w.heap.size w W → RefAt base W R room sp c rs from fun W b => h.later b)
  have h16 := h.few
  have B0 := hide (show Below w.heap.size w (w.alloc (.cells #[] 9)) from (Below.refl _ _).alloc (Nat.le_refl _) _)
  have O0 := hide (show OwnN w.heap.size (w.alloc (.cells #[] 9)) (some ⟨w.heap.size, 0, none⟩) 0 [] from ⟨rfl, .inr ⟨w.heap.size, 0, #[], rfl, Nat.le_refl _, heap_new w _, Nat.le_refl _, by simp [maxLen], rfl, rfl⟩⟩)
  clear h
  obtain ⟨n, hn⟩ : ∃ n, rs.length = n := ⟨_, rfl⟩
  rw [hn] at h16
  have HN := hide hn
  go_enter Try.func40, Try.ntmps40
  go_wp2_with fail
  go_loopw [3, 4] (fun v3 v4 wr => ∃ (j : Nat) (op : Option Addr) (oc : Nat), j ≤ n ∧ v3 = .slice op j oc ∧ v4 = .int .i64 (j : Int) ∧ Hid (OwnN w.heap.size wr op oc ((rs.map (·.1)).take j)) ∧ Hid (Below w.heap.size w wr)) (fun _ v4 _ => n - (intOf v4).toNat)
  case atStart => exact ⟨0, _, 0, by omega, rfl, rfl, O0, B0⟩
  case round =>
    obtain ⟨j, op, oc, hj, rfl, rfl, HO, HB⟩ := hrel
    have c1 := (unhide RC wr (unhide HB)).c1
    rw [hn] at c1
    by_cases hjn : j < n
    · have y1 : (j : Int) < (n : Int) := by omega
      have y0 : (0 : Int) ≤ (j : Int) := by omega
      have hjr : j < rs.length := by omega
      obtain ⟨g, rfl, p0, _⟩ := (unhide RC wr (unhide HB)).own.cells j hjr
      have TK := hide (show (rs.map (·.1)).take (j + 1) = (rs.map (·.1)).take j ++ [rs[j].1] by
        rw [List.take_succ_eq_append_getElem (by simpa using hjr), List.getElem_map])
      have HL := hide (show ((rs.map (·.1)).take j).length = j by rw [List.length_take, List.length_map]; omega)
      generalize rs[j].1 = t at *
      have AZ := hide (show Below wr.heap.size wr (wr.alloc (.cells #[.string (str t)] 9)) from (Below.refl _ _).alloc (Nat.le_refl _) _)
      have OZ := hide ((unhide HO).later (unhide AZ))
      have BZ := hide ((unhide HB).trans ((unhide AZ).mono (unhide HB).size))
      have XZ := hide (heap_new wr (.cells #[.string (str t)] 9))
      clear hn
      go_wp2_with (at_builtin; refine wpList_appendN rfl (.tmp 19) (.tmp 28) rfl w.heap.size op j oc ((rs.map (·.1)).take j) rfl (unhide HL) (by exact unhide OZ) wr.heap.size t rfl (by exact unhide XZ) (by omega) (by exact (unhide BZ).size) ?_; intro sp9 c9 V9 hO9 hG9; refine unhide ?_)
      refine hide ?_
      rw [← unhide TK] at hO9
      have O9 := hide hO9
      have B9 := hide (show Below w.heap.size w V9 from (unhide BZ).grown hG9.grown (unhide BZ).size (fun g' hg' => ((unhide OZ).blk_is g' hg').1))
      clear hO9 hG9
      go_wp2
      exact ⟨⟨j + 1, sp9, c9, by omega, rfl, by go_num, unhide O9, unhide B9⟩, by simp [intOf]; omega⟩
    · have y1 : ¬ (j : Int) < (n : Int) := by omega
      obtain rfl : j = n := by omega
      have hjr : (rs.map (·.1)).take j = rs.map (·.1) := List.take_of_length_le (by rw [List.length_map]; omega)
      rw [hjr] at HO
      clear hjr hn
      go_wp2
      go_ret
      exact ⟨op, j, oc, rfl, unhide HN, unhide HO, unhide HB⟩
end
end Go.Proofs.Ytghdiemihceaoaa
end
/- The document's disk: Remove, Sync, Rename, Read, Sure. -/
section
namespace Go.Proofs.Ytghdiemihceaoaa
open Go.ChangeShapes Go.WideShapes Go.ChangeAt Go.RowKit Go.Maps

/-- What a call on the document's disk leaves. -/
structure RDone (base R room : Nat) (w : World) (sp : Option Addr) (rs : List Rf) (rs' : List Rf) (w' : World) : Prop where
  at_ : ∃ sp' c', RefAt base w' R room sp' c' rs' ∧ ∀ g, footR sp' rs' g → footR sp rs g ∨ w.heap.size ≤ g
  grown : w.grownBy w' (some R)
def REnd (base R room : Nat) (w : World) (sp : Option Addr) (rs : List Rf) (r : Nat × Ds) (e : Ending) (w' : World) : Prop :=
  e = .returned (.int .i64 (r.1 : Int)) ∧ ∃ rs', rss rs' = r.2 ∧ RDone base R room w sp rs rs' w'
section
variable {base R room : Nat} {w w' : World} {sp : Option Addr} {c : Nat} {rs rs' : List Rf}
theorem rss_get (k : Nm) (rs : List Rf) : getS k (rss rs) = (getS k rs).map (fun v => v.s) := getS_map (fun v : RV => v.s) k rs
theorem rss_put (k : Nm) (v : RV) (rs : List Rf) : rss (putF k v rs) = putF k v.s (rss rs) := putF_map (fun v : RV => v.s) k v rs
theorem rss_del (k : Nm) (rs : List Rf) : rss (delF k rs) = delF k (rss rs) := delF_map (fun v : RV => v.s) k rs
theorem RefAt.stay (h : RefAt base w R room sp c rs) (hb : Below w.heap.size w w') : RDone base R room w sp rs rs w' := ⟨⟨sp, c, h.later hb, fun _ hg => .inl hg⟩, grown_below (some R) hb⟩
theorem RefAt.stored (h : RefAt base w R room sp c rs) {W : World} (hb : Below w.heap.size w W) {sp' : Option Addr} {c' n' : Nat} (ho : OwnR base W sp' c' rs') (hn : rs'.length = n') (hr : Rises rs') (hf : rs'.length ≤ 16) (hfoot : ∀ g, footR sp' rs' g → footR sp rs g ∨ w.heap.size ≤ g) :
    RDone base R room w sp rs rs' (W.setCell ⟨R, 1, none⟩ (.slice sp' n' c')) := by
  subst hn
  refine ⟨⟨sp', c', (h.later hb).set sp' c' rs' ho hr hf, hfoot⟩, ?_⟩
  have hg := grown_set W R 1 (.slice sp' rs'.length c')
  exact ⟨hg.os.trans hb.os, hg.tape.trans hb.tape, hg.output.trans hb.output, Nat.le_trans hb.size hg.size, fun i hi hne => (hg.block i (Nat.lt_of_lt_of_le hi hb.size) hne).trans (hb.block i hi)⟩
theorem REnd.stay {r : Nat × Ds} {e : Ending} (h : RefAt base w R room sp c rs) (hb : Below w.heap.size w w') (he : e = .returned (.int .i64 (r.1 : Int))) (hr : r.2 = rss rs) : REnd base R room w sp rs r e w' := ⟨he, rs, hr.symm, h.stay hb⟩
theorem RefAt.getI (h : RefAt base w R room sp c rs) (i : Nat) (hi : i < rs.length) : getS rs[i].1 rs = some rs[i].2 := getS_mem h.rise (List.getElem_mem hi)
theorem foot_put (sp' : Option Addr) (k : Nm) (v : RV) (hr : Rises rs) {n0 : Nat} (h1 : ∀ g, blk sp' = some g → n0 ≤ g) (h2 : ∀ g, Rf.foot (k, v) g → footR sp rs g ∨ n0 ≤ g) : ∀ g, footR sp' (putF k v rs) g → footR sp rs g ∨ n0 ≤ g := by
  rintro g (hg | ⟨x, hx, hg⟩)
  · exact .inr (h1 g hg)
  · rcases (mem_putF hr x).1 hx with rfl | ⟨hx, _⟩
    · exact h2 g hg
    · exact .inl (.inr ⟨x, hx, hg⟩)
theorem foot_del (sp' : Option Addr) (k : Nm) {n0 : Nat} (h1 : ∀ g, blk sp' = some g → n0 ≤ g) : ∀ g, footR sp' (delF k rs) g → footR sp rs g ∨ n0 ≤ g := by
  rintro g (hg | ⟨x, hx, hg⟩)
  · exact .inr (h1 g hg)
  · exact .inl (.inr ⟨x, ((mem_delF x).1 hx).1, hg⟩)
theorem putF_old_len {k : Nm} {v : RV} (hr : Rises rs) (hk : k ∈ rs.map (·.1)) : (putF k v rs).length = rs.length := by rw [putF_length hr, if_pos hk]
set_option maxRecDepth 20000 in
set_option maxHeartbeats 4000000 in
theorem rremove_calls (h : RefAt base w R room sp c rs) (hbs : base ≤ w.heap.size) (s : ByteArray) :
    Calls Try.prog 39 #[.pointer (some ⟨R, 0, none⟩), .string s] w (REnd base R room w sp rs (dRemove s.data.toList (rss rs))) := by
  have FC := hide (rfind_calls h s)
  have c1 := h.c1
  have WC := hide (rwithout_calls base w sp c rs s h.own h.few hbs)
  have EN := hide (show s.data.toList ∉ rs.map (·.1) → REnd base R room w sp rs (dRemove s.data.toList (rss rs)) (.returned (.int .i64 8)) w from fun hn => by
    have hg := getS_none.2 hn
    exact REnd.stay h (Below.refl _ _) (by simp [dRemove, rss_get, hg]) (by simp [dRemove, rss_get, hg]))
  have EY := hide (show ∀ i (hi : i < rs.length), rs[i].1 = s.data.toList → ∀ W sp' n' c', Below w.heap.size w W → OwnR base W sp' c' (delF s.data.toList rs) → (delF s.data.toList rs).length = n' → (∀ g, blk sp' = some g → w.heap.size ≤ g) → REnd base R room w sp rs (dRemove s.data.toList (rss rs)) (.returned (.int .i64 0)) (W.setCell ⟨R, 1, none⟩ (.slice sp' n' c')) from fun i hi he W sp' n' c' hb ho hn hg => by
    have hgs := h.getI i hi
    rw [he] at hgs
    refine ⟨by simp [dRemove, rss_get, hgs], delF s.data.toList rs, by simp [dRemove, rss_get, hgs, rss_del], h.stored hb ho hn (h.rise.del _) (Nat.le_trans (List.length_filter_le _ _) h.few) (foot_del sp' _ hg)⟩)
  have VC := hide (fun W (hb : Below w.heap.size w W) => show W.cell? ⟨R, 1, none⟩ = some (.slice sp rs.length c) ∧ W.frozen? ⟨R, 1, none⟩ = false from ⟨(h.later hb).c1, (h.later hb).z1⟩)
  clear h hbs
  generalize hn : rs.length = n at c1 WC VC
  go_enter Try.func39, Try.ntmps39
  go_wp2_with fail
  refine (unhide FC).mono ?_
  rintro e w2 ⟨rfl, hF⟩
  rcases hF with ⟨i, hi, he, rfl⟩ | ⟨hno, rfl⟩
  · have hi0 : ¬ ((i : Int) < 0) := by omega
    have EY2 := hide (unhide EY i hi he)
    clear hi he EY hn
    go_wp2_with (go_at_call 60; refine (unhide WC).mono ?_; rintro e W ⟨sp', n', c', rfl, hn', ho', hg', hb'⟩; obtain ⟨v1, z1⟩ := unhide VC W hb'; have E3 := hide (unhide EY2 W sp' n' c' hb' ho' hn' hg'); clear hn' ho' hg' hb')
    go_ret
    exact unhide E3
  · have E3 := hide (unhide EN hno)
    clear hno hn
    go_wp2
    go_ret
    exact unhide E3
theorem SOk.synced {s : Sp} (h : SOk s) : SOk ⟨true, s.now, []⟩ := ⟨trivial, by simp, by rw [← h.now]; exact h.len _, by rw [← h.now]; exact h.lt _, by simp⟩
set_option maxRecDepth 20000 in
set_option maxHeartbeats 40000000 in
theorem rsync_calls (h : RefAt base w R room sp c rs) (hbs : base ≤ w.heap.size) (s : ByteArray) :
    Calls Try.prog 37 #[.pointer (some ⟨R, 0, none⟩), .string s] w (REnd base R room w sp rs (dSync s.data.toList (rss rs))) := by
  have FC := hide (rfind_calls h s)
  have EN := hide (show s.data.toList ∉ rs.map (·.1) → REnd base R room w sp rs (dSync s.data.toList (rss rs)) (.returned (.int .i64 8)) w from fun hn => by
    have hg := getS_none.2 hn
    exact REnd.stay h (Below.refl _ _) (by simp [dSync, rss_get, hg]) (by simp [dSync, rss_get, hg]))
  have VC := hide (fun W (hb : Below w.heap.size w W) => h.later hb)
  have H := hide h
  have HS := hide hbs
  clear h hbs
  go_enter Try.func37, Try.ntmps37
  go_wp2_with fail
  refine (unhide FC).mono ?_
  rintro e w2 ⟨rfl, hF⟩
  rcases hF with ⟨i, hi, he, rfl⟩ | ⟨hno, rfl⟩
  · have hi0 : ¬ ((i : Int) < 0) := by omega
    have hi1 : (i : Int) < (rs.length : Int) := by omega
    have hi2 : (0 : Int) ≤ (i : Int) := by omega
    obtain ⟨g, rfl, p0, p1, p2, p3⟩ := (unhide H).own.cells i hi
    have c1 := (unhide H).c1
    have NC := hide (fun W (hb : Below w2.heap.size w2 W) => now_calls base W rs[i] ((unhide VC W hb).own.dat _ (List.getElem_mem hi)))
    have PC := hide (show ∀ W, Below w2.heap.size w2 W → W.cell? ⟨R, 1, none⟩ = some (.slice (some ⟨g, 0, none⟩) rs.length c) ∧ W.frozen? ⟨R, 1, none⟩ = false ∧ W.cell? ⟨g, i * 4, none⟩ = some (.string (str rs[i].1)) ∧ W.cell? ⟨g, i * 4 + 1, none⟩ = some (.bool rs[i].2.s.la) ∧ W.cell? ⟨g, i * 4 + 2, none⟩ = some (.slice rs[i].2.yp rs[i].2.s.y.length rs[i].2.yc) ∧ W.cell? ⟨g, i * 4 + 3, none⟩ = some (.slice rs[i].2.up rs[i].2.s.us.length rs[i].2.uc) from fun W b => by
      obtain ⟨g', e', q⟩ := (unhide VC W b).own.cells i hi
      obtain rfl : g = g' := by simpa using e'
      exact ⟨(unhide VC W b).c1, (unhide VC W b).z1, q⟩)
    have GI := hide (show getS s.data.toList rs = some rs[i].2 by rw [← he]; exact (unhide H).getI i hi)
    have OK := hide (((unhide H).own.dat _ (List.getElem_mem hi)).ok)
    have KM := hide (show s.data.toList ∈ rs.map (·.1) by rw [← he]; exact List.mem_map.2 ⟨_, List.getElem_mem hi, rfl⟩)
    generalize rs[i] = z at *
    obtain ⟨nm, t, yp, yc, up, uc⟩ := z
    unfold rfVal at NC
    simp only at he p0 p1 p2 p3 NC PC OK GI
    have UC := hide (show ∀ W sp2 n2 c2, Below w2.heap.size w2 W → t.now.length = n2 → Bx w2.heap.size W sp2 c2 t.now → Calls Try.prog 59 #[.slice (some ⟨g, 0, none⟩) rs.length c, .agg #[.string s, .bool true, .slice sp2 n2 c2, .slice none 0 0]] W fun e w' => ∃ sp' n' c', e = .returned (.slice sp' n' c') ∧ REnd base R room w2 (some ⟨g, 0, none⟩) rs (dSync s.data.toList (rss rs)) (.returned (.int .i64 0)) (w'.setCell ⟨R, 1, none⟩ (.slice sp' n' c')) ∧ Below w2.heap.size w2 w' from fun W sp2 n2 c2 hb hn2 hX => by
      subst hn2
      have hle := Nat.le_trans (unhide HS) hb.size
      have hat : RfAt base W (s.data.toList, ⟨⟨true, t.now, []⟩, sp2, c2, none, 0⟩) := ⟨(unhide OK).synced, hX.mono (unhide HS), W.ownsRow_nil base 90 3, by simp [Sp.us, usL]⟩
      have := rput_calls base W (some ⟨g, 0, none⟩) c rs (s.data.toList, ⟨⟨true, t.now, []⟩, sp2, c2, none, 0⟩) (unhide VC W hb).own (unhide H).rise (unhide H).few hat hle
      unfold rfVal at this
      simp only [str_of'] at this
      refine this.mono ?_
      rintro e W' ⟨sp', n', c', rfl, hn', ho', hg', hb'⟩
      have hbb := hb.trans (hb'.mono hb.size)
      refine ⟨sp', n', c', rfl, ⟨by simp [dSync, rss_get, unhide GI], _, ?_, (unhide H).stored hbb ho' hn' ((unhide H).rise.put _ _) (by rw [putF_old_len (unhide H).rise (unhide KM)]; exact (unhide H).few) (foot_put sp' _ _ (unhide H).rise (fun g hg => Nat.le_trans hb.size (hg' g hg)) ?_)⟩, hbb⟩
      · rw [rss_put]
        simp [dSync, rss_get, unhide GI]
      · rintro g (hg | hg)
        · exact .inr (hX.isT g hg).1
        · cases hg)
    have nn : ∀ x : Nat, x = rs.length → x = rs.length := fun _ h => h
    generalize rs.length = n at c1 PC UC hi1
    clear he hi nn
    obtain ⟨r1, r2, _⟩ := unhide PC w2 (Below.refl _ _)
    go_wp2_with fail
    go_region_law (first
      | (go_simp
         go_at_call 46
         refine (unhide NC w2.drew ((Below.refl _ _).drew)).mono ?_
         rintro e W ⟨sp2, n2, c2, rfl, hn2, h8, hX, b2⟩
         have BN := hide (show Below w2.heap.size w2 W from ⟨b2.os, b2.tape, b2.output, b2.size, b2.block⟩)
         have UX := hide (unhide UC W sp2 n2 c2 (unhide BN) hn2 hX)
         obtain ⟨u1, u2, _⟩ := unhide PC W (unhide BN)
         clear b2 hX hn2)
      | (go_simp
         go_at_call 59
         refine (unhide UX).mono ?_
         rintro e W' ⟨sp', n', c', rfl, hE, b3⟩
         have E3 := hide hE
         obtain ⟨v1, z1, _⟩ := unhide PC W' b3
         clear hE b3))
    all_goals
      go_wp2
      go_ret
      exact unhide E3
  · have E3 := hide (unhide EN hno)
    clear hno
    go_wp2
    go_ret
    exact unhide E3
end
end Go.Proofs.Ytghdiemihceaoaa
end
