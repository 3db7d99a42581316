/- The document's disk: units appended; Cut, Rename, Read, Sure, New. -/
import Derived.Test.YtghdiemihceaoaaB07
section
namespace Go.Proofs.Ytghdiemihceaoaa
open Go.ChangeShapes Go.WideShapes Go.ChangeAt Go.RowKit Go.Maps

theorem u_oneCell (us : List Un) : ∀ v ∈ us.flatMap uRow, v.oneCell' = true := by
  intro v hv
  obtain ⟨u, _, hu⟩ := List.mem_flatMap.1 hv
  simp only [uRow, List.mem_cons, List.not_mem_nil, or_false] at hu
  rcases hu with rfl | rfl | rfl <;> rfl
theorem infoU : (Try.prog.info? 90).map (fun i => (i.zero, i.size, i.bytes)) = some (some (.agg #[.bool false, .int .i64 0, .int .u8 0]), 3, 24) := by kernel_rfl
section
variable {base b2 : Nat} {w w' : World} {sp xp : Option Addr} {c xc : Nat} {us vs : List Un}
theorem OwnU.empty (w : World) (base : Nat) (hb : base ≤ w.heap.size) : OwnU base (w.alloc (.cells #[] 90)) (some ⟨w.heap.size, 0, none⟩) 0 [] :=
  ⟨rfl, .inr ⟨w.heap.size, 0, #[], rfl, hb, heap_new w _, Nat.le_refl _, by simp [maxLen], rfl, rfl⟩⟩
theorem OwnU.one {B : Nat} (u : Un) (hB : w.heap[B]? = some (.cells (uRow u).toArray 90 (0, 0))) : OwnU 0 w (some ⟨B, 0, none⟩) 1 [u] :=
  ⟨by simp [uRow], .inr ⟨B, 1, (uRow u).toArray, rfl, Nat.zero_le _, hB, Nat.le_refl _, by simp [maxLen], rfl, by simp [uRow]⟩⟩
theorem run_appendU (hown : OwnU base w sp c us) (src : OwnU b2 w xp xc vs) (hn : (us.length + vs.length) * 24 ≤ 140737488355328) (hbase : base ≤ w.heap.size) (ty : TypeId) :
    ∃ sp' c' w', (Builtin.append_ #[78, 78] ty #[.slice sp us.length c, .slice xp vs.length xc]).run Try.prog w = .ok (.slice sp' (us.length + vs.length) c') w' ∧ OwnU base w' sp' c' (us ++ vs) ∧ Grew w sp w' sp' := by
  obtain ⟨i0, hi, hz0, hz1, hz2⟩ := info_parts infoU
  have hcap : us.length ≤ c ∧ (sp = none → c = 0) := by
    rcases hown.2 with ⟨hv, h0⟩ | ⟨g, cap, cur, hv, _, _, hle, _⟩
    · simp only [Value.slice.injEq] at hv
      exact ⟨by omega, fun _ => hv.2.2⟩
    · simp only [Value.slice.injEq] at hv
      exact ⟨by rw [hv.2.2]; exact hle, fun e => by rw [hv.1] at e; cases e⟩
  rcases src.2 with ⟨hv, h0⟩ | ⟨g, cap, cur, hv, _, hg, hle, hmx, hsz, ht⟩
  · simp only [Value.slice.injEq] at hv
    obtain ⟨rfl, _, rfl⟩ := hv
    have hvs : vs = [] := List.eq_nil_of_length_eq_zero h0
    subst hvs
    refine ⟨sp, c, w, ?_, by rw [List.append_nil]; exact hown, Grew.refl _ _⟩
    cases sp with
    | none =>
      have h0 : us = [] := by
        rcases hown.2 with ⟨_, h0⟩ | ⟨g, cap, cur, hv, _⟩
        · exact List.eq_nil_of_length_eq_zero h0
        · simp only [Value.slice.injEq] at hv; cases hv.1
      subst h0
      rw [hcap.2 rfl]
      simp [Builtin.append_, run_underlying Try.underlying78, sizeOf, typeInfo, hi, Builtin.lenOf, Builtin.firstCells]
    | some ad =>
      simp [Builtin.append_, run_underlying Try.underlying78, sizeOf, typeInfo, hi, Builtin.lenOf, Builtin.firstCells, hcap.1, storeCells]
  · simp only [Value.slice.injEq] at hv
    obtain ⟨rfl, _, rfl⟩ := hv
    obtain ⟨v', w', hrun, h1, h2, _, h5⟩ := run_append_own_at (P := Try.prog) w base 78 ty 90 i0 _ 3 24 Try.underlying78 hi hz0 hz1 hz2 rfl (by omega) _ _ _ hown ⟨g, 0, none⟩ vs.length xc (vs.flatMap uRow) (rowsU_length vs)
      (fun j u hu => by
        rw [Addr.add_lit, Nat.zero_add, cell_of_row w g j cur _ _ hg]
        have hlt : j < vs.length * 3 := by rw [← rowsU_length]; exact (List.getElem?_eq_some_iff.1 hu).1
        rw [← ht, List.getElem?_take, if_pos hlt] at hu
        simpa using hu) (u_oneCell vs) (by simp only [maxLen]; omega) (by omega) hbase
    have hv : ∃ sp' c', v' = .slice sp' (us.length + vs.length) c' := by
      rcases h1.2 with ⟨hv, h0⟩ | ⟨g, cap, cur, hv, _⟩
      · exact ⟨none, 0, by rw [hv, h0]⟩
      · exact ⟨_, _, hv⟩
    obtain ⟨sp', c', rfl⟩ := hv
    rw [ownBlock_slice] at h2
    rw [ownBlock_slice, ownBlock_slice] at h5
    refine ⟨sp', c', w', hrun, ?_, ⟨h2, fun g hg => ?_⟩⟩
    · show w'.ownsRow base 90 3 (.slice sp' (us ++ vs).length c') (us ++ vs).length ((us ++ vs).flatMap uRow)
      rw [List.flatMap_append, List.length_append]
      exact h1
    · rcases h5 with h5 | h5
      · exact .inl (h5.symm.trans hg)
      · rw [h5] at hg
        exact .inr (Nat.le_of_eq (Option.some.inj hg))
end
theorem wpList_appendU {w : World} {ops : Array Oper} {rest : List Oper} {o : Oper} {a : Act} {Q : Exit → Act → World → Prop} (hgd : o.guard = none) (s x : Operand)
    (ho : o.op = .call { callee := .builtin .append, args := #[s, x], argTypes := #[78, 78] })
    (base b2 : Nat) (sp xp : Option Addr) (n m c xc : Nat) (us vs : List Un) (hs : a.eval s = .slice sp n c) (hx : a.eval x = .slice xp m xc) (hn : us.length = n) (hm : vs.length = m) (hown : OwnU base w sp c us) (src : OwnU b2 w xp xc vs) (hsz : (n + m) * 24 ≤ 140737488355328) (hbase : base ≤ w.heap.size)
    (hk : ∀ sp' n' c' w', Hid ((us ++ vs).length = n') → OwnU base w' sp' c' (us ++ vs) → Grew w sp w' sp' → wpList Try.prog ops Q rest (a.put o.dst (.slice sp' n' c')) w') :
    wpList Try.prog ops Q (o :: rest) a w := by
  subst hn hm
  refine wpList_plain hgd fun K hK => ?_
  obtain ⟨sp', c', w', hrun, h1, h2⟩ := run_appendU hown src hsz hbase o.type
  unfold Oper.wp
  simp [execOp, ho, resolve, invoke, builtin, hs, hx, hrun, Result.andThen]
  have := hK _ _ (hk sp' (us ++ vs).length c' w' rfl h1 h2)
  rw [List.length_append] at this
  exact this
section
variable {base R room : Nat} {w w' : World} {sp : Option Addr} {c : Nat} {rs rs' : List Rf}
theorem rread_yes (h : RefAt base w R room sp c rs) (s : ByteArray) (x : Sp) (hx : getS s.data.toList (rss rs) = some x) :
    Calls Try.prog 18 #[.pointer (some ⟨R, 0, none⟩), .string s] w fun e w' => ∃ sp n c, e = .returned (.tuple #[.slice sp n c, .int .i64 0]) ∧ x.now.length = n ∧ Bx w.heap.size w' sp c x.now ∧ Below w.heap.size w w' := by
  have FC := hide (rfind_calls h s)
  have H := hide h
  rw [rss_get, Option.map_eq_some_iff] at hx
  obtain ⟨v, hv, rfl⟩ := hx
  have HV := hide hv
  clear h hv
  go_enter Try.func18, Try.ntmps18
  go_wp2_with fail
  refine (unhide FC).mono ?_
  rintro e w2 ⟨rfl, hF⟩
  rcases hF with ⟨i, hi, he, rfl⟩ | ⟨hno, rfl⟩
  · have hi0 : ¬ ((i : Int) < 0) := by omega
    have hi1 : (i : Int) < (rs.length : Int) := by omega
    have hi2 : (0 : Int) ≤ (i : Int) := by omega
    obtain ⟨g, rfl, p0, p1, p2, p3⟩ := (unhide H).own.cells i hi
    have c1 := (unhide H).c1
    have NC := hide (now_calls base w2 rs[i] ((unhide H).own.dat _ (List.getElem_mem hi)))
    have hvi : rs[i].2 = v := by
      have h1 := (unhide H).getI i hi
      rw [he, unhide HV] at h1
      exact (Option.some.inj h1).symm
    generalize rs[i] = z at *
    obtain ⟨nm, t, yp, yc, up, uc⟩ := z
    simp only at hvi
    subst hvi
    unfold rfVal at NC
    simp only at p0 p1 p2 p3 NC
    clear he hi
    generalize rs.length = n at c1 hi1
    go_wp2_with (go_at_call 46; refine (unhide NC).mono ?_; rintro e W ⟨sp2, n2, c2, rfl, hn2, h8, hX, b2⟩; have N2 := hide hn2; have X2 := hide hX; have B2 := hide b2; clear hn2 hX b2)
    go_ret2
    exact ⟨sp2, n2, c2, rfl, unhide N2, unhide X2, unhide B2⟩
  · exact absurd (List.mem_map.2 ⟨_, getS_some (unhide HV), rfl⟩) hno
set_option maxRecDepth 20000 in
set_option maxHeartbeats 4000000 in
theorem rsure_yes (h : RefAt base w R room sp c rs) (s : ByteArray) (x : Sp) (hx : getS s.data.toList (rss rs) = some x) (hl : x.la = true) :
    Calls Try.prog 42 #[.pointer (some ⟨R, 0, none⟩), .string s] w fun e w' => ∃ sp n c, e = .returned (.tuple #[.slice sp n c, .int .i64 0]) ∧ x.y.length = n ∧ Bx w.heap.size w' sp c x.y ∧ Below w.heap.size w w' := by
  have FC := hide (rfind_calls h s)
  have H := hide h
  rw [rss_get, Option.map_eq_some_iff] at hx
  obtain ⟨v, hv, rfl⟩ := hx
  have HV := hide hv
  clear h hv
  go_enter Try.func42, Try.ntmps42
  go_wp2_with fail
  refine (unhide FC).mono ?_
  rintro e w2 ⟨rfl, hF⟩
  rcases hF with ⟨i, hi, he, rfl⟩ | ⟨hno, rfl⟩
  · have hi0 : ¬ ((i : Int) < 0) := by omega
    have hi1 : (i : Int) < (rs.length : Int) := by omega
    have hi2 : (0 : Int) ≤ (i : Int) := by omega
    have A0 := hide (show Below w2.heap.size w2 (w2.alloc (.cells #[] 5)) from (Below.refl _ _).alloc (Nat.le_refl _) _)
    have O0 := hide ((OwnB.empty w2 w2.heap.size (Nat.le_refl _)).toBx)
    obtain ⟨g, rfl, p0, p1, p2, p3⟩ := (unhide H).own.cells i hi
    obtain ⟨g', e', _, _, r2, _⟩ := ((unhide H).later (unhide A0)).own.cells i hi
    obtain rfl : g = g' := by simpa using e'
    have c1 := (unhide H).c1
    have d1 := ((unhide H).later (unhide A0)).c1
    have YC := hide (((unhide H).later (unhide A0)).own.dat _ (List.getElem_mem hi)).sure
    have Y8 := hide ((unhide H).own.dat _ (List.getElem_mem hi)).ok.y8
    have hvi : rs[i].2 = v := by
      have h1 := (unhide H).getI i hi
      rw [he, unhide HV] at h1
      exact (Option.some.inj h1).symm
    rw [hvi, hl] at p1
    generalize rs[i] = z at *
    obtain ⟨nm, t, yp, yc, up, uc⟩ := z
    simp only at hvi
    subst hvi
    simp only at p0 p1 p2 p3 YC Y8 r2
    clear he hi hl e'
    generalize rs.length = n at c1 hi1 d1
    generalize hny : t.y.length = ny at p2 r2 Y8
    have HNY := hide hny
    clear hny
    have hy8 := unhide Y8
    go_wp2_with (at_builtin; refine wpList_appendBx rfl (.tmp 25) (.tmp 33) rfl w2.heap.size (some ⟨w2.heap.size, 0, none⟩) 0 0 [] rfl rfl (by exact unhide O0) yp ny yc rfl t.y (unhide HNY) (by exact (unhide YC).bytes) (unhide YC).nil0 (by simp; omega) (by exact (unhide A0).size) ?_; intro sp3 n3 c3 W3 hn3 hX3 hG3; refine unhide ?_)
    refine hide ?_
    rw [List.nil_append] at hn3 hX3
    have B3 := hide (show Below w2.heap.size w2 W3 from (unhide A0).grown hG3.grown (unhide A0).size (fun g hg => by simp [blk] at hg; omega))
    have X3 := hide hX3
    clear hX3 hG3
    go_wp2
    go_ret2
    exact ⟨sp3, n3, c3, rfl, unhide hn3, unhide X3, unhide B3⟩
  · exact absurd (List.mem_map.2 ⟨_, getS_some (unhide HV), rfl⟩) hno
theorem rsure_no (h : RefAt base w R room sp c rs) (s : ByteArray) (hx : ∀ x, getS s.data.toList (rss rs) = some x → x.la = false) :
    Calls Try.prog 42 #[.pointer (some ⟨R, 0, none⟩), .string s] w fun e w' => e = .returned (.tuple #[.slice none 0 0, .int .i64 8]) ∧ w' = w := by
  have FC := hide (rfind_calls h s)
  have H := hide h
  have HV := hide hx
  clear h hx
  go_enter Try.func42, Try.ntmps42
  go_wp2_with fail
  refine (unhide FC).mono ?_
  rintro e w2 ⟨rfl, hF⟩
  rcases hF with ⟨i, hi, he, rfl⟩ | ⟨hno, rfl⟩
  · have hi0 : ¬ ((i : Int) < 0) := by omega
    have hi1 : (i : Int) < (rs.length : Int) := by omega
    have hi2 : (0 : Int) ≤ (i : Int) := by omega
    obtain ⟨g, rfl, p0, p1, p2, p3⟩ := (unhide H).own.cells i hi
    have c1 := (unhide H).c1
    have hl : rs[i].2.s.la = false := unhide HV _ (by rw [rss_get, ← he, (unhide H).getI i hi]; rfl)
    rw [hl] at p1
    clear he hl
    generalize rs[i].1 = q0 at *
    generalize rs[i].2 = q1 at *
    clear hi
    generalize rs.length = n at c1 hi1
    go_wp2
    go_ret2
    exact ⟨rfl, rfl⟩
  · go_wp2
    go_ret2
    exact ⟨rfl, rfl⟩
theorem RefAt.new (w : World) (hb : base ≤ w.heap.size) (room : Nat) : RefAt base (w.alloc (.cells #[.int .i64 (room : Int), .slice none 0 0] 68)) w.heap.size room none 0 [] :=
  ⟨heap_new w _, ⟨World.ownsRow_nil _ _ _ _, by simp⟩, hb, List.Pairwise.nil, by simp⟩
theorem rnew_calls (w : World) (hb : base ≤ w.heap.size) (z : Int) : Calls Try.prog 13 #[.int .i64 z] w fun e w' => e = .returned (.pointer (some ⟨w.heap.size, 0, none⟩)) ∧ RefAt base w' w.heap.size z.toNat none 0 [] ∧ Below w.heap.size w w' := by
  have HD := hide (fun r => RefAt.new (base := base) w hb r)
  have HB := hide (fun (r : Nat) => show Below w.heap.size w (w.alloc (.cells #[.int .i64 (r : Int), .slice none 0 0] 68)) from (Below.refl _ _).alloc (Nat.le_refl _) _)
  clear hb
  by_cases hz : z < 0
  · have e1 : z.toNat = 0 := by omega
    rw [e1]
    go_enter Try.func13, Try.ntmps13
    go_wp2
    go_ret
    exact ⟨rfl, unhide HD 0, unhide HB 0⟩
  · obtain ⟨r, rfl⟩ : ∃ r : Nat, z = (r : Int) := ⟨z.toNat, by omega⟩
    rw [Int.toNat_natCast]
    go_enter Try.func13, Try.ntmps13
    go_wp2
    go_ret
    exact ⟨rfl, unhide HD r, unhide HB r⟩
end
end Go.Proofs.Ytghdiemihceaoaa
end
/- The document's disk: Cut, Rename. -/
section
namespace Go.Proofs.Ytghdiemihceaoaa
open Go.ChangeShapes Go.WideShapes Go.ChangeAt Go.RowKit Go.Maps

theorem usL_snoc (cs : List Chg) (c : Chg) : usL (cs ++ [c]) = usL cs ++ unitsOf c := by simp [usL]
theorem us_le : ∀ (cs : List Chg), (∀ c ∈ cs, smallC c) → (usL cs).length ≤ cs.length * 262144
  | [], _ => by simp [usL]
  | c :: cs, h => by
    have ih := us_le cs (fun x hx => h x (List.mem_cons_of_mem _ hx))
    have hc := h c List.mem_cons_self
    have hl : (usL (c :: cs)).length = unitsC c + (usL cs).length := by simp [usL, unitsOf_length]
    have h1 : unitsC c ≤ 262144 := by
      unfold unitsC
      cases hb : c.1 with
      | true => simp
      | false => simp only [Bool.false_eq_true, if_false]; have := (hc.1 hb).1; omega
    rw [hl, List.length_cons]
    omega
theorem SOk.cutS {s : Sp} (h : SOk s) (k : Nat) (hk : k ≤ s.now.length) : SOk ⟨s.la, s.y, s.cs ++ [(true, k, [])]⟩ := by
  have h8 : s.now.length ≤ 262144 := by rw [← h.now]; exact h.len _
  refine ⟨fitsC_snoc _ _ _ h.fit hk (by show s.now.length + 0 ≤ _; omega), ?_, h.y8, h.yb, ?_⟩
  · intro c hc
    rcases List.mem_append.1 hc with hc | hc
    · exact h.small c hc
    · obtain rfl : c = (true, k, []) := by simpa using hc
      exact ⟨fun e => (by cases e), fun _ => rfl⟩
  · intro c hc
    rcases List.mem_append.1 hc with hc | hc
    · exact h.cb c hc
    · obtain rfl : c = (true, k, []) := by simpa using hc
      simp
section
variable {base R room : Nat} {w w' : World} {sp : Option Addr} {c : Nat} {rs rs' : List Rf}
/-- A file with other changes comes into the list: what put then does. -/
theorem RefAt.putS (h : RefAt base w R room sp c rs) (hbs : base ≤ w.heap.size) (nm : Nm) (v : RV) (W : World) (hb : Below w.heap.size w W) (hat : RfAt base W (nm, v)) (hfew : (putF nm v rs).length ≤ 16) (hfoot : ∀ g, Rf.foot (nm, v) g → footR sp rs g ∨ w.heap.size ≤ g) :
    Calls Try.prog 59 #[.slice sp rs.length c, .agg #[.string (str nm), .bool v.s.la, .slice v.yp v.s.y.length v.yc, .slice v.up v.s.us.length v.uc]] W fun e w' => ∃ sp' n' c', e = .returned (.slice sp' n' c') ∧ RDone base R room w sp rs (putF nm v rs) (w'.setCell ⟨R, 1, none⟩ (.slice sp' n' c')) ∧ Below w.heap.size w w' := by
  have := rput_calls base W sp c rs (nm, v) (h.later hb).own h.rise h.few hat (Nat.le_trans hbs hb.size)
  unfold rfVal at this
  refine this.mono ?_
  rintro e W' ⟨sp', n', c', rfl, hn', ho', hg', hb'⟩
  have hbb := hb.trans (hb'.mono hb.size)
  exact ⟨sp', n', c', rfl, h.stored hbb ho' hn' (h.rise.put _ _) hfew (foot_put sp' _ _ h.rise (fun g hg => Nat.le_trans hb.size (hg' g hg)) hfoot), hbb⟩
set_option maxRecDepth 20000 in
set_option maxHeartbeats 40000000 in
theorem rcut_calls (h : RefAt base w R room sp c rs) (hbs : base ≤ w.heap.size) (s : ByteArray) (z : Int) (hcs : ∀ x ∈ rs, x.2.s.cs.length ≤ 300) :
    Calls Try.prog 36 #[.pointer (some ⟨R, 0, none⟩), .string s, .int .i64 z] w (REnd base R room w sp rs (dCut s.data.toList z (rss rs))) := by
  have FC := hide (rfind_calls h s)
  have EN := hide (show s.data.toList ∉ rs.map (·.1) → REnd base R room w sp rs (dCut s.data.toList z (rss rs)) (.returned (.int .i64 8)) w from fun hn => by
    have hg := getS_none.2 hn
    exact REnd.stay h (Below.refl _ _) (by simp [dCut, rss_get, hg]) (by simp [dCut, rss_get, hg]))
  have VC := hide (fun W (hb : Below w.heap.size w W) => h.later hb)
  have H := hide h
  have HS := hide hbs
  have HCS := hide hcs
  clear h hbs hcs
  go_enter Try.func36, Try.ntmps36
  go_wp2_with fail
  refine (unhide FC).mono ?_
  rintro e w2 ⟨rfl, hF⟩
  rcases hF with ⟨i, hi, he, rfl⟩ | ⟨hno, rfl⟩
  · have hi0 : ¬ ((i : Int) < 0) := by omega
    have hi1 : (i : Int) < (rs.length : Int) := by omega
    have hi2 : (0 : Int) ≤ (i : Int) := by omega
    obtain ⟨g, rfl, p0, p1, p2, p3⟩ := (unhide H).own.cells i hi
    have c1 := (unhide H).c1
    have DAT := hide (fun W (hb : Below w2.heap.size w2 W) => (unhide VC W hb).own.dat _ (List.getElem_mem hi))
    have GI := hide (show getS s.data.toList rs = some rs[i].2 by rw [← he]; exact (unhide H).getI i hi)
    have ZM := hide (List.getElem_mem hi)
    have KM := hide (show s.data.toList ∈ rs.map (·.1) by rw [← he]; exact List.mem_map.2 ⟨_, List.getElem_mem hi, rfl⟩)
    have HE := hide he
    clear he
    generalize rs[i] = x at *
    obtain ⟨nm, t, yp, yc, up, uc⟩ := x
    have hnm : nm = s.data.toList := unhide HE
    subst hnm
    simp only [str_of'] at p0
    simp only at p1 p2 p3 DAT GI
    have OK := hide (unhide DAT w2 (Below.refl _ _)).ok
    have b1 : Below w2.heap.size w2 (w2.alloc (rfObj (s.data.toList, ⟨t, yp, yc, up, uc⟩))) := (Below.refl _ _).alloc (Nat.le_refl _) _
    have hs1 : (w2.alloc (rfObj (s.data.toList, ⟨t, yp, yc, up, uc⟩))).heap.size = w2.heap.size + 1 := by simp
    have X1 := hide (heap_new w2 (rfObj (s.data.toList, ⟨t, yp, yc, up, uc⟩)))
    have NC := hide (now_calls base _ (s.data.toList, ⟨t, yp, yc, up, uc⟩) (unhide DAT _ b1))
    have hdz : z < 0 ∨ z > t.now.length → dCut s.data.toList z (rss rs) = (2, rss rs) := fun hz => by
      simp only [dCut, rss_get, unhide GI, Option.map_some]; rw [if_pos hz]
    have E2 := hide (show (z < 0 ∨ z > t.now.length) → ∀ W, Below w2.heap.size w2 W → REnd base R room w2 (some ⟨g, 0, none⟩) rs (dCut s.data.toList z (rss rs)) (.returned (.int .i64 2)) W from fun hz W hb => REnd.stay (unhide H) hb (by rw [hdz hz]; rfl) (by rw [hdz hz]))
    have YY := hide (show ∀ (k : Nat), z = (k : Int) → k ≤ t.now.length → ∀ W up' uc', Below w2.heap.size w2 W → OwnU (w2.heap.size + 1) W up' uc' (t.us ++ [(true, k, 0)]) → Calls Try.prog 59 #[.slice (some ⟨g, 0, none⟩) rs.length c, .agg #[.string s, .bool t.la, .slice yp t.y.length yc, .slice up' (t.us ++ [(true, k, 0)]).length uc']] W fun e w' => ∃ sp' n' c', e = .returned (.slice sp' n' c') ∧ REnd base R room w2 (some ⟨g, 0, none⟩) rs (dCut s.data.toList z (rss rs)) (.returned (.int .i64 0)) (w'.setCell ⟨R, 1, none⟩ (.slice sp' n' c')) ∧ Below w2.heap.size w2 w' from fun k hzk hk W up' uc' hb hU => by
      have husn : (⟨t.la, t.y, t.cs ++ [(true, k, [])]⟩ : Sp).us = t.us ++ [(true, k, 0)] := usL_snoc _ _
      have hsok := (unhide OK).cutS k hk
      have hle : (t.us ++ [(true, k, 0)]).length ≤ 100000000 := by
        rw [← husn]
        have h1 := us_le _ hsok.small
        have h2 := unhide HCS _ (unhide ZM)
        simp only [List.length_append, List.length_cons, List.length_nil] at h1 h2
        show (usL (t.cs ++ [(true, k, [])])).length ≤ _
        omega
      have := (unhide H).putS (unhide HS) s.data.toList ⟨⟨t.la, t.y, t.cs ++ [(true, k, [])]⟩, yp, yc, up', uc'⟩ W hb ⟨hsok, (unhide DAT W hb).sure, by rw [husn]; exact own_mono hU (by have := unhide HS; omega), by rw [husn]; exact hle⟩ (by rw [putF_old_len (unhide H).rise (unhide KM)]; exact (unhide H).few) (by
        rintro g' (hg | hg)
        · exact .inl (.inr ⟨_, unhide ZM, .inl hg⟩)
        · exact .inr (by have := (own_is hU g' hg).1; omega))
      rw [husn, str_of'] at this
      refine this.mono ?_
      rintro e W' ⟨sp', n', c', rfl, hD, hbb⟩
      refine ⟨sp', n', c', rfl, ⟨?_, _, ?_, hD⟩, hbb⟩
      · simp only [dCut, rss_get, unhide GI, Option.map_some]
        rw [if_neg (by omega)]; rfl
      · rw [rss_put]
        simp only [dCut, rss_get, unhide GI, Option.map_some]
        rw [if_neg (by omega), hzk, Int.toNat_natCast])
    have RC := hide (fun W (hb : Below w2.heap.size w2 W) => show W.cell? ⟨R, 1, none⟩ = some (.slice (some ⟨g, 0, none⟩) rs.length c) ∧ W.frozen? ⟨R, 1, none⟩ = false from ⟨(unhide VC W hb).c1, (unhide VC W hb).z1⟩)
    have B1 := hide b1
    have HX1 := hide (show ∀ W, Below (w2.heap.size + 1) (w2.alloc (rfObj (s.data.toList, ⟨t, yp, yc, up, uc⟩))) W → W.heap[w2.heap.size]? = some (rfObj (s.data.toList, ⟨t, yp, yc, up, uc⟩)) from fun W b => (b.block w2.heap.size (by omega)).trans (unhide X1))
    have UD := hide (show ∀ W, Below w2.heap.size w2 W → OwnU base W up uc t.us from fun W b => (unhide DAT W b).units)
    have U8 := hide (unhide DAT w2 (Below.refl _ _)).few
    clear hdz b1 X1
    unfold rfVal at NC
    unfold rfObj at NC B1 HX1 hs1
    simp only [str_of'] at NC B1 HX1 hs1
    clear HE hi
    generalize rs.length = n at c1 hi1 RC YY
    by_cases hz0 : z < 0
    · have E3 := hide (unhide E2 (.inl hz0) _ (unhide B1))
      go_wp2
      go_ret
      exact unhide E3
    · obtain ⟨k, rfl⟩ : ∃ k : Nat, z = (k : Int) := ⟨z.toNat, by omega⟩
      go_wp2_with fail
      generalize w2.alloc (.cells #[.string s, .bool t.la, .slice yp t.y.length yc, .slice up t.us.length uc] 80) = V1 at *
      refine (unhide NC).mono ?_
      rintro e V2 ⟨sp2, n2, c2, rfl, hn2, h8, hX2, b2⟩
      rw [hs1] at b2
      have B2 := hide b2
      have BV2 := hide ((unhide B1).trans (b2.mono (by omega)))
      have HN2 := hide hn2
      clear hX2 b2 hn2
      by_cases hz1 : n2 < k
      · have hz2 : (n2 : Int) < (k : Int) := by omega
        have E3 := hide (unhide E2 (.inr (by rw [unhide HN2]; omega)) _ (unhide BV2))
        go_wp2
        go_ret
        exact unhide E3
      · have hz2 : ¬ (n2 : Int) < (k : Int) := by omega
        have Y2 := hide (unhide YY k rfl (by rw [unhide HN2]; omega))
        have A3 := hide (show Below V2.heap.size V2 (V2.alloc (.cells #[] 90)) from (Below.refl _ _).alloc (Nat.le_refl _) _)
        have hV2 : w2.heap.size + 1 ≤ V2.heap.size := by have := (unhide B2).size; omega
        have O3 := hide (OwnU.empty V2 (w2.heap.size + 1) hV2)
        have B3 := hide ((unhide B2).trans ((unhide A3).mono hV2))
        have BV3 := hide ((unhide B1).trans ((unhide B3).mono (by omega)))
        have u3 : (V2.alloc (.cells #[] 90)).cell? ⟨w2.heap.size, 3, none⟩ = some (.slice up t.us.length uc) := fcell (unhide HX1 _ (unhide B3)) 3 _ rfl
        have S3 := hide (unhide UD _ (unhide BV3))
        have u8 : t.us.length ≤ 100000000 := unhide U8
        generalize hnu : t.us.length = nu at u3 u8
        have HNU := hide hnu
        clear hnu
        go_wp2_with (at_builtin; refine wpList_appendU rfl (.tmp 33) (.tmp 35) rfl (w2.heap.size + 1) base (some ⟨V2.heap.size, 0, none⟩) up 0 nu 0 uc [] t.us rfl rfl rfl (unhide HNU) (by exact unhide O3) (by exact unhide S3) (by omega) (by exact Nat.le_trans hV2 (unhide A3).size) ?_; intro sp4 n4 c4 V4 hn4 hO4 hG4; refine unhide ?_)
        refine hide ?_
        rw [List.nil_append] at hn4 hO4
        have B4 := hide (show Below (w2.heap.size + 1) V1 V4 from (unhide B3).grown hG4.grown (by have := (unhide B3).size; omega) (fun g' hg' => by simp [blk] at hg'; omega))
        have O4 := hide hO4
        have hn4' : t.us.length = n4 := unhide hn4
        have hV4 : w2.heap.size + 1 ≤ V4.heap.size := by have := (unhide B4).size; omega
        have A5 := hide (show Below V4.heap.size V4 (V4.alloc (.cells #[.bool true, .int .i64 (k : Int), .int .u8 0] 90)) from (Below.refl _ _).alloc (Nat.le_refl _) _)
        have O5 := hide (own_same (unhide O4) (fun g hg => (unhide A5).block g (own_is (unhide O4) g hg).2.1))
        have S5 := hide (OwnU.one (true, k, 0) (heap_new V4 (.cells #[.bool true, .int .i64 (k : Int), .int .u8 0] 90)))
        have B5 := hide ((unhide B4).trans ((unhide A5).mono hV4))
        have HN4 := hide hn4'
        have h48 : n4 ≤ 100000000 := by rw [← hn4', unhide HNU]; exact u8
        have YB := hide (fun g (hg : blk sp4 = some g) => (own_is (unhide O4) g hg).1)
        clear hO4 hG4 hn4 hn4' u3
        go_wp2_with (at_builtin; refine wpList_appendU rfl (.tmp 37) (.tmp 40) rfl (w2.heap.size + 1) 0 sp4 (some ⟨V4.heap.size, 0, none⟩) n4 1 c4 1 t.us [(true, k, 0)] rfl rfl (unhide HN4) rfl (by exact unhide O5) (by exact unhide S5) (by omega) (by exact Nat.le_trans hV4 (unhide A5).size) ?_; intro sp6 n6 c6 V6 hn6 hO6 hG6; refine unhide ?_)
        refine hide ?_
        have B6 := hide (show Below (w2.heap.size + 1) V1 V6 from (unhide B5).grown hG6.grown (by have := (unhide B5).size; omega) (fun g' hg' => unhide YB g' hg'))
        have hX6 := unhide HX1 V6 (unhide B6)
        have w3 := fcell hX6 3 _ rfl
        have f3 := ffree hX6 3
        have BV6 := hide ((unhide B1).trans ((unhide B6).mono (by omega)))
        have hX7 : (V6.setCell ⟨w2.heap.size, 3, none⟩ (.slice sp6 n6 c6)).heap[w2.heap.size]? = some (.cells #[.string s, .bool t.la, .slice yp t.y.length yc, .slice sp6 n6 c6] 80 (0, 0)) := by
          rw [heap_setCell_same V6 w2.heap.size 3 _ 80 _ hX6]; rfl
        have BV7 := hide (show Below w2.heap.size w2 (V6.setCell ⟨w2.heap.size, 3, none⟩ (.slice sp6 n6 c6)) from (unhide BV6).grown (grown_set V6 w2.heap.size 3 _) (unhide BV6).size (fun g hg => by have := Option.some.inj hg; omega))
        have O7 := hide (own_same (w' := V6.setCell ⟨w2.heap.size, 3, none⟩ (.slice sp6 n6 c6)) hO6 (fun g hg => heap_setCell_other _ ⟨w2.heap.size, 3, none⟩ g _ (fun e => by
          have e2 : g = w2.heap.size := e
          have := (own_is hO6 g hg).1
          omega)))
        have x0 := fcell hX7 0 _ rfl
        have x1 := fcell hX7 1 _ rfl
        have x2 := fcell hX7 2 _ rfl
        have x3 := fcell hX7 3 _ rfl
        obtain ⟨r1, r2⟩ := unhide RC _ (unhide BV7)
        have HN6 := hide (show (t.us ++ [(true, k, 0)]).length = n6 from unhide hn6)
        clear hX6 hX7 hO6 hG6 hn6
        go_wp2_with fail
        generalize V6.setCell ⟨w2.heap.size, 3, none⟩ (.slice sp6 n6 c6) = V7 at *
        have UX := hide (show ∀ W, Below V7.heap.size V7 W → Calls Try.prog 59 #[.slice (some ⟨g, 0, none⟩) n c, .agg #[.string s, .bool t.la, .slice yp t.y.length yc, .slice sp6 n6 c6]] W _ from fun W hb => by
          have hbb := (unhide BV7).trans (hb.mono (unhide BV7).size)
          have := unhide Y2 W sp6 c6 hbb (own_same (unhide O7) (fun g hg => hb.block g (own_is (unhide O7) g hg).2.1))
          rw [unhide HN6] at this
          exact this)
        go_region_law (go_simp; go_at_call 59; refine (unhide UX V7.drew ((Below.refl _ _).drew)).mono ?_; rintro e W' ⟨sp', n', c', rfl, hE, b3⟩; have E3 := hide hE; obtain ⟨v1, z1⟩ := unhide RC W' b3; clear hE b3)
        all_goals
          go_wp2
          go_ret
          exact unhide E3
  · have E3 := hide (unhide EN hno)
    clear hno
    go_wp2
    go_ret
    exact unhide E3
end
end Go.Proofs.Ytghdiemihceaoaa
end
/- The document's disk: Rename. -/
section
namespace Go.Proofs.Ytghdiemihceaoaa
open Go.ChangeShapes Go.WideShapes Go.ChangeAt Go.RowKit Go.Maps

theorem putF_delF {α : Type} {k : Nm} {v : α} : ∀ {fs : List (Nm × α)}, Rises fs → (k, v) ∈ fs → putF k v (delF k fs) = fs
  | [], _, h => by simp at h
  | x :: r, hr, hm => by
    have h1 := List.pairwise_cons.1 hr
    rcases List.mem_cons.1 hm with rfl | hm
    · have hd : delF k ((k, v) :: r) = r := by
        unfold delF
        rw [List.filter_cons, if_neg (by simp), List.filter_eq_self]
        intro y hy
        have : y.1 ≠ k := fun e => nm_irrefl k (by have := h1.1 y hy; rw [e] at this; exact this)
        simpa using this
      rw [hd]
      cases r with
      | nil => rfl
      | cons y r =>
        have hy : k < y.1 := h1.1 y List.mem_cons_self
        have e1 : ¬ y.1 < k := fun e => nm_irrefl _ (nm_trans e hy)
        have e2 : ¬ y.1 = k := fun e => nm_irrefl k (by rw [e] at hy; exact hy)
        simp [putF, e1, e2]
    · have hx : x.1 < k := h1.1 (k, v) hm
      have hne : x.1 ≠ k := fun e => nm_irrefl _ (e ▸ hx)
      have hd : delF k (x :: r) = x :: delF k r := by
        unfold delF
        rw [List.filter_cons, if_pos (by simpa using hne)]
      have e : putF k v (x :: delF k r) = if x.1 < k then x :: putF k v (delF k r) else if x.1 = k then (k, v) :: delF k r else (k, v) :: x :: delF k r := rfl
      rw [hd, e, if_pos hx, putF_delF h1.2 hm]
section
variable {base R room : Nat} {w w' : World} {sp : Option Addr} {c : Nat} {rs rs' : List Rf}
set_option maxRecDepth 20000 in
set_option maxHeartbeats 40000000 in
theorem rrename_calls (h : RefAt base w R room sp c rs) (hbs : base ≤ w.heap.size) (s b : ByteArray) (hb : b.size ≤ maxLen) :
    Calls Try.prog 38 #[.pointer (some ⟨R, 0, none⟩), .string s, .string b] w (REnd base R room w sp rs (dRename s.data.toList b.data.toList (rss rs))) := by
  have FC := hide (rfind_calls h s)
  have EN := hide (show s.data.toList ∉ rs.map (·.1) → REnd base R room w sp rs (dRename s.data.toList b.data.toList (rss rs)) (.returned (.int .i64 8)) w from fun hn => by
    have hg := getS_none.2 hn
    exact REnd.stay h (Below.refl _ _) (by simp [dRename, rss_get, hg]) (by simp [dRename, rss_get, hg]))
  have VC := hide (fun W (hb : Below w.heap.size w W) => h.later hb)
  have H := hide h
  have HS := hide hbs
  have NB := hide (fun (W : World) => named_calls b W hb)
  clear h hbs hb
  go_enter Try.func38, Try.ntmps38
  go_wp2_with fail
  refine (unhide FC).mono ?_
  rintro e w2 ⟨rfl, hF⟩
  rcases hF with ⟨i, hi, he, rfl⟩ | ⟨hno, rfl⟩
  · have hi0 : ¬ ((i : Int) < 0) := by omega
    have hi1 : (i : Int) < (rs.length : Int) := by omega
    have hi2 : (0 : Int) ≤ (i : Int) := by omega
    obtain ⟨g, rfl, p0, p1, p2, p3⟩ := (unhide H).own.cells i hi
    have c1 := (unhide H).c1
    have DAT := hide (fun W (hb : Below w2.heap.size w2 W) => (unhide VC W hb).own.dat _ (List.getElem_mem hi))
    have GI := hide (show getS s.data.toList rs = some rs[i].2 by rw [← he]; exact (unhide H).getI i hi)
    have ZM := hide (List.getElem_mem hi)
    have HE := hide he
    clear he
    generalize rs[i] = x at *
    obtain ⟨nm, t, yp, yc, up, uc⟩ := x
    have hnm : nm = s.data.toList := unhide HE
    subst hnm
    simp only [str_of'] at p0
    simp only at p1 p2 p3 DAT GI
    have RC := hide (fun W (hb : Below w2.heap.size w2 W) => show W.cell? ⟨R, 1, none⟩ = some (.slice (some ⟨g, 0, none⟩) rs.length c) ∧ W.frozen? ⟨R, 1, none⟩ = false from ⟨(unhide VC W hb).c1, (unhide VC W hb).z1⟩)
    have UX0 := hide (show nameL b.data.toList = true → ∀ W, Below w2.heap.size w2 W → Calls Try.prog 60 #[.slice (some ⟨g, 0, none⟩) rs.length c, .string s] W fun e W1 => ∃ sp1 n1 c1, e = .returned (.slice sp1 n1 c1) ∧ Below w2.heap.size w2 W1 ∧ Below W.heap.size W W1 ∧ Calls Try.prog 59 #[.slice sp1 n1 c1, .agg #[.string b, .bool t.la, .slice yp t.y.length yc, .slice up t.us.length uc]] W1 fun e w' => ∃ sp' n' c', e = .returned (.slice sp' n' c') ∧ REnd base R room w2 (some ⟨g, 0, none⟩) rs (dRename s.data.toList b.data.toList (rss rs)) (.returned (.int .i64 0)) (w'.setCell ⟨R, 1, none⟩ (.slice sp' n' c')) ∧ Below w2.heap.size w2 w' from fun hnl W hbW => by
      refine (rwithout_calls base W (some ⟨g, 0, none⟩) c rs s (unhide VC W hbW).own (unhide H).few (Nat.le_trans (unhide HS) hbW.size)).mono ?_
      rintro e W1 ⟨sp1, n1, c1, rfl, hn1, ho1, hg1, hb1⟩
      subst hn1
      have hb11 := hbW.trans (hb1.mono hbW.size)
      refine ⟨sp1, _, c1, rfl, hb11, hb1, ?_⟩
      have hd := delF_length (k := s.data.toList) (unhide H).rise
      rw [if_pos (List.mem_map.2 ⟨_, unhide ZM, rfl⟩)] at hd
      have h16 := (unhide H).few
      have := rput_calls base W1 sp1 c1 (delF s.data.toList rs) (b.data.toList, ⟨t, yp, yc, up, uc⟩) ho1 ((unhide H).rise.del _) (by omega) (by
        have hq := unhide DAT W1 hb11
        exact ⟨hq.ok, hq.sure, hq.units, hq.few⟩) (Nat.le_trans (unhide HS) hb11.size)
      unfold rfVal at this
      simp only [str_of'] at this
      refine this.mono ?_
      rintro e W' ⟨sp', n', c', rfl, hn', ho', hg', hb'⟩
      have hbb := hb11.trans (hb'.mono hb11.size)
      refine ⟨sp', n', c', rfl, ⟨by simp [dRename, rss_get, unhide GI, hnl], _, ?_, (unhide H).stored hbb ho' hn' (((unhide H).rise.del _).put _ _) (by rw [putF_length ((unhide H).rise.del _)]; split <;> omega) ?_⟩, hbb⟩
      · rw [rss_put, rss_del]
        simp [dRename, rss_get, unhide GI, hnl]
      · rintro g' (hg | ⟨x, hx, hg⟩)
        · exact .inr (Nat.le_trans hb11.size (hg' g' hg))
        · rcases (mem_putF ((unhide H).rise.del _) x).1 hx with rfl | ⟨hx, _⟩
          · exact .inl (.inr ⟨_, unhide ZM, hg⟩)
          · exact .inl (.inr ⟨x, ((mem_delF x).1 hx).1, hg⟩))
    have E14 := hide (show nameL b.data.toList = false → REnd base R room w2 (some ⟨g, 0, none⟩) rs (dRename s.data.toList b.data.toList (rss rs)) (.returned (.int .i64 14)) w2 from fun hnl => REnd.stay (unhide H) (Below.refl _ _) (by simp [dRename, rss_get, unhide GI, hnl]) (by simp [dRename, rss_get, unhide GI, hnl]))
    have E0 := hide (show nameL b.data.toList = true → s.data.toList = b.data.toList → REnd base R room w2 (some ⟨g, 0, none⟩) rs (dRename s.data.toList b.data.toList (rss rs)) (.returned (.int .i64 0)) w2 from fun hnl hsb => by
      have hr : Rises (rss rs) := (unhide H).rise.map (fun v : RV => v.s)
      have hm : (s.data.toList, t) ∈ rss rs := List.mem_map.2 ⟨_, unhide ZM, rfl⟩
      refine REnd.stay (unhide H) (Below.refl _ _) (by simp [dRename, rss_get, unhide GI, hnl]) ?_
      rw [← hsb] at hnl ⊢
      simp only [dRename, rss_get, unhide GI, Option.map_some, hnl, if_true]
      exact putF_delF hr hm)
    have b1 : Below w2.heap.size w2 (w2.alloc (.cells #[.string b, .bool t.la, .slice yp t.y.length yc, .slice up t.us.length uc] 80)) := (Below.refl _ _).alloc (Nat.le_refl _) _
    have B1 := hide b1
    have X1 := heap_new w2 (.cells #[.string b, .bool t.la, .slice yp t.y.length yc, .slice up t.us.length uc] 80)
    have x0 := fcell X1 0 _ rfl
    have x1 := fcell X1 1 _ rfl
    have x2 := fcell X1 2 _ rfl
    have x3 := fcell X1 3 _ rfl
    obtain ⟨r1, r2⟩ := unhide RC _ b1
    have XX := hide (show ∀ W, Below (w2.alloc (.cells #[.string b, .bool t.la, .slice yp t.y.length yc, .slice up t.us.length uc] 80)).heap.size (w2.alloc (.cells #[.string b, .bool t.la, .slice yp t.y.length yc, .slice up t.us.length uc] 80)) W → W.heap[w2.heap.size]? = some (.cells #[.string b, .bool t.la, .slice yp t.y.length yc, .slice up t.us.length uc] 80 (0, 0)) from fun W hb => (hb.block w2.heap.size (by simp)).trans X1)
    clear b1 X1 HE hi
    generalize rs.length = n at c1 hi1 RC UX0 r1
    cases hnl : nameL b.data.toList with
    | false =>
      have E3 := hide (unhide E14 hnl)
      go_wp2_with (go_at_call 30; refine (unhide NB _).mono ?_; rintro e w' ⟨rfl, rfl⟩)
      go_ret
      exact unhide E3
    | true =>
      by_cases hsb : s.data.toList = b.data.toList
      · have E3 := hide (unhide E0 hnl hsb)
        have hq : (s.toList == b.toList) = true := by
          rw [ByteArray.toList_eq, ByteArray.toList_eq, hsb]; simp
        clear hsb
        go_wp2_with (go_at_call 30; refine (unhide NB _).mono ?_; rintro e w' ⟨rfl, rfl⟩)
        go_ret
        exact unhide E3
      · have hq : (s.toList == b.toList) = false := by
          rw [ByteArray.toList_eq, ByteArray.toList_eq]; simpa using hsb
        have UX := hide (unhide UX0 hnl)
        clear hsb UX0 E14 E0
        go_wp2_with (go_at_call 30; refine (unhide NB _).mono ?_; rintro e w' ⟨rfl, rfl⟩)
        generalize w'.alloc (.cells #[.string b, .bool t.la, .slice yp t.y.length yc, .slice up t.us.length uc] 80) = V7 at *
        go_region_law (first
          | (go_simp
             go_at_call 60
             refine (unhide UX V7.drew (unhide B1).drew).mono ?_
             rintro e W1 ⟨sp1, n1, k1, rfl, hb1, hb2, hP⟩
             have UP := hide hP
             obtain ⟨s1, s2⟩ := unhide RC W1 hb1
             have Y1 := unhide XX W1 ⟨hb2.os, hb2.tape, hb2.output, hb2.size, hb2.block⟩
             have y0 := fcell Y1 0 _ rfl
             have y1 := fcell Y1 1 _ rfl
             have y2 := fcell Y1 2 _ rfl
             have y3 := fcell Y1 3 _ rfl
             clear hP hb1 hb2 Y1)
          | (go_simp
             go_at_call 59
             refine (unhide UP).mono ?_
             rintro e W' ⟨sp', n', c', rfl, hE, b3⟩
             have E3 := hide hE
             obtain ⟨v1, z1⟩ := unhide RC W' b3
             clear hE b3))
        all_goals
          go_wp2
          go_ret
          exact unhide E3
  · have E3 := hide (unhide EN hno)
    clear hno
    go_wp2
    go_ret
    exact unhide E3
end
end Go.Proofs.Ytghdiemihceaoaa
end
