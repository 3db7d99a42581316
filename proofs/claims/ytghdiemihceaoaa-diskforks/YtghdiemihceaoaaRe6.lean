/- The document's disk: units appended; Cut, Rename, Read, Sure, New. -/
import Derived.Test.YtghdiemihceaoaaRe5
namespace Go.Proofs.Ytghdiemihceaoaa
open Go.ChangeShapes Go.WideShapes Go.ChangeAt Go.RowKit Go.Maps

theorem u_oneCell (us : List Un) : ∀ v ∈ us.flatMap uRow, v.oneCell' = true := by
  intro v hv
  obtain ⟨u, _, hu⟩ := List.mem_flatMap.1 hv
  simp only [uRow, List.mem_cons, List.not_mem_nil, or_false] at hu
  rcases hu with rfl | rfl | rfl <;> rfl
theorem infoU : (Try.prog.info? 90).map (fun i => (i.zero, i.size, i.bytes)) = some (some (.agg #[.bool false, .int .i64 0, .int .u8 0]), 3, 24) := by kernel_rfl
section
variable {base b2 : Nat} {w w' : World} {sp xp : Option Addr} {c xc : Nat} {us vs : List Un}
theorem OwnU.empty (w : World) (base : Nat) (hb : base ≤ w.heap.size) : OwnU base (w.alloc (.cells #[] 90)) (some ⟨w.heap.size, 0, none⟩) 0 [] :=
  ⟨rfl, .inr ⟨w.heap.size, 0, #[], rfl, hb, heap_new w _, Nat.le_refl _, by simp [maxLen], rfl, rfl⟩⟩
theorem OwnU.one {B : Nat} (u : Un) (hB : w.heap[B]? = some (.cells (uRow u).toArray 90 (0, 0))) : OwnU 0 w (some ⟨B, 0, none⟩) 1 [u] :=
  ⟨by simp [uRow], .inr ⟨B, 1, (uRow u).toArray, rfl, Nat.zero_le _, hB, Nat.le_refl _, by simp [maxLen], rfl, by simp [uRow]⟩⟩
theorem run_appendU (hown : OwnU base w sp c us) (src : OwnU b2 w xp xc vs) (hn : (us.length + vs.length) * 24 ≤ 140737488355328) (hbase : base ≤ w.heap.size) (ty : TypeId) :
    ∃ sp' c' w', (Builtin.append_ #[78, 78] ty #[.slice sp us.length c, .slice xp vs.length xc]).run Try.prog w = .ok (.slice sp' (us.length + vs.length) c') w' ∧ OwnU base w' sp' c' (us ++ vs) ∧ Grew w sp w' sp' := by
  obtain ⟨i0, hi, hz0, hz1, hz2⟩ := info_parts infoU
  have hcap : us.length ≤ c ∧ (sp = none → c = 0) := by
    rcases hown.2 with ⟨hv, h0⟩ | ⟨g, cap, cur, hv, _, _, hle, _⟩
    · simp only [Value.slice.injEq] at hv
      exact ⟨by omega, fun _ => hv.2.2⟩
    · simp only [Value.slice.injEq] at hv
      exact ⟨by rw [hv.2.2]; exact hle, fun e => by rw [hv.1] at e; cases e⟩
  rcases src.2 with ⟨hv, h0⟩ | ⟨g, cap, cur, hv, _, hg, hle, hmx, hsz, ht⟩
  · simp only [Value.slice.injEq] at hv
    obtain ⟨rfl, _, rfl⟩ := hv
    have hvs : vs = [] := List.eq_nil_of_length_eq_zero h0
    subst hvs
    refine ⟨sp, c, w, ?_, by rw [List.append_nil]; exact hown, Grew.refl _ _⟩
    cases sp with
    | none =>
      have h0 : us = [] := by
        rcases hown.2 with ⟨_, h0⟩ | ⟨g, cap, cur, hv, _⟩
        · exact List.eq_nil_of_length_eq_zero h0
        · simp only [Value.slice.injEq] at hv; cases hv.1
      subst h0
      rw [hcap.2 rfl]
      simp [Builtin.append_, run_underlying Try.underlying78, sizeOf, typeInfo, hi, Builtin.lenOf, Builtin.firstCells]
    | some ad =>
      simp [Builtin.append_, run_underlying Try.underlying78, sizeOf, typeInfo, hi, Builtin.lenOf, Builtin.firstCells, hcap.1, storeCells]
  · simp only [Value.slice.injEq] at hv
    obtain ⟨rfl, _, rfl⟩ := hv
    obtain ⟨v', w', hrun, h1, h2, _, h5⟩ := run_append_own_at (P := Try.prog) w base 78 ty 90 i0 _ 3 24 Try.underlying78 hi hz0 hz1 hz2 rfl (by omega) _ _ _ hown ⟨g, 0, none⟩ vs.length xc (vs.flatMap uRow) (rowsU_length vs)
      (fun j u hu => by
        rw [Addr.add_lit, Nat.zero_add, cell_of_row w g j cur _ _ hg]
        have hlt : j < vs.length * 3 := by rw [← rowsU_length]; exact (List.getElem?_eq_some_iff.1 hu).1
        rw [← ht, List.getElem?_take, if_pos hlt] at hu
        simpa using hu) (u_oneCell vs) (by simp only [maxLen]; omega) (by omega) hbase
    have hv : ∃ sp' c', v' = .slice sp' (us.length + vs.length) c' := by
      rcases h1.2 with ⟨hv, h0⟩ | ⟨g, cap, cur, hv, _⟩
      · exact ⟨none, 0, by rw [hv, h0]⟩
      · exact ⟨_, _, hv⟩
    obtain ⟨sp', c', rfl⟩ := hv
    rw [ownBlock_slice] at h2
    rw [ownBlock_slice, ownBlock_slice] at h5
    refine ⟨sp', c', w', hrun, ?_, ⟨h2, fun g hg => ?_⟩⟩
    · show w'.ownsRow base 90 3 (.slice sp' (us ++ vs).length c') (us ++ vs).length ((us ++ vs).flatMap uRow)
      rw [List.flatMap_append, List.length_append]
      exact h1
    · rcases h5 with h5 | h5
      · exact .inl (h5.symm.trans hg)
      · rw [h5] at hg
        exact .inr (Nat.le_of_eq (Option.some.inj hg))
end
theorem wpList_appendU {w : World} {ops : Array Oper} {rest : List Oper} {o : Oper} {a : Act} {Q : Exit → Act → World → Prop} (hgd : o.guard = none) (s x : Operand)
    (ho : o.op = .call { callee := .builtin .append, args := #[s, x], argTypes := #[78, 78] })
    (base b2 : Nat) (sp xp : Option Addr) (n m c xc : Nat) (us vs : List Un) (hs : a.eval s = .slice sp n c) (hx : a.eval x = .slice xp m xc) (hn : us.length = n) (hm : vs.length = m) (hown : OwnU base w sp c us) (src : OwnU b2 w xp xc vs) (hsz : (n + m) * 24 ≤ 140737488355328) (hbase : base ≤ w.heap.size)
    (hk : ∀ sp' n' c' w', Hid ((us ++ vs).length = n') → OwnU base w' sp' c' (us ++ vs) → Grew w sp w' sp' → wpList Try.prog ops Q rest (a.put o.dst (.slice sp' n' c')) w') :
    wpList Try.prog ops Q (o :: rest) a w := by
  subst hn hm
  refine wpList_plain hgd fun K hK => ?_
  obtain ⟨sp', c', w', hrun, h1, h2⟩ := run_appendU hown src hsz hbase o.type
  unfold Oper.wp
  simp [execOp, ho, resolve, invoke, builtin, hs, hx, hrun, Result.andThen]
  have := hK _ _ (hk sp' (us ++ vs).length c' w' rfl h1 h2)
  rw [List.length_append] at this
  exact this
section
variable {base R room : Nat} {w w' : World} {sp : Option Addr} {c : Nat} {rs rs' : List Rf}
theorem rread_yes (h : RefAt base w R room sp c rs) (s : ByteArray) (x : Sp) (hx : getS s.data.toList (rss rs) = some x) :
    Calls Try.prog 18 #[.pointer (some ⟨R, 0, none⟩), .string s] w fun e w' => ∃ sp n c, e = .returned (.tuple #[.slice sp n c, .int .i64 0]) ∧ x.now.length = n ∧ Bx w.heap.size w' sp c x.now ∧ Below w.heap.size w w' := by
  have FC := hide (rfind_calls h s)
  have H := hide h
  rw [rss_get, Option.map_eq_some_iff] at hx
  obtain ⟨v, hv, rfl⟩ := hx
  have HV := hide hv
  clear h hv
  go_enter Try.func18, Try.ntmps18
  go_wp2_with fail
  refine (unhide FC).mono ?_
  rintro e w2 ⟨rfl, hF⟩
  rcases hF with ⟨i, hi, he, rfl⟩ | ⟨hno, rfl⟩
  · have hi0 : ¬ ((i : Int) < 0) := by omega
    have hi1 : (i : Int) < (rs.length : Int) := by omega
    have hi2 : (0 : Int) ≤ (i : Int) := by omega
    obtain ⟨g, rfl, p0, p1, p2, p3⟩ := (unhide H).own.cells i hi
    have c1 := (unhide H).c1
    have NC := hide (now_calls base w2 rs[i] ((unhide H).own.dat _ (List.getElem_mem hi)))
    have hvi : rs[i].2 = v := by
      have h1 := (unhide H).getI i hi
      rw [he, unhide HV] at h1
      exact (Option.some.inj h1).symm
    generalize rs[i] = z at *
    obtain ⟨nm, t, yp, yc, up, uc⟩ := z
    simp only at hvi
    subst hvi
    unfold rfVal at NC
    simp only at p0 p1 p2 p3 NC
    clear he hi
    generalize rs.length = n at c1 hi1
    go_wp2_with (go_at_call 46; refine (unhide NC).mono ?_; rintro e W ⟨sp2, n2, c2, rfl, hn2, h8, hX, b2⟩; have N2 := hide hn2; have X2 := hide hX; have B2 := hide b2; clear hn2 hX b2)
    go_ret2
    exact ⟨sp2, n2, c2, rfl, unhide N2, unhide X2, unhide B2⟩
  · exact absurd (List.mem_map.2 ⟨_, getS_some (unhide HV), rfl⟩) hno
theorem rread_no (h : RefAt base w R room sp c rs) (s : ByteArray) (hx : getS s.data.toList (rss rs) = none) :
    Calls Try.prog 18 #[.pointer (some ⟨R, 0, none⟩), .string s] w fun e w' => e = .returned (.tuple #[.slice none 0 0, .int .i64 8]) ∧ w' = w := by
  have FC := hide (rfind_calls h s)
  rw [rss_get, Option.map_eq_none_iff, getS_none] at hx
  have HV := hide hx
  clear h hx
  go_enter Try.func18, Try.ntmps18
  go_wp2_with fail
  refine (unhide FC).mono ?_
  rintro e w2 ⟨rfl, hF⟩
  rcases hF with ⟨i, hi, he, rfl⟩ | ⟨hno, rfl⟩
  · exact absurd (he ▸ List.mem_map.2 ⟨_, List.getElem_mem hi, rfl⟩) (unhide HV)
  · go_wp2
    go_ret2
    exact ⟨rfl, rfl⟩
set_option maxRecDepth 20000 in
set_option maxHeartbeats 4000000 in
theorem rsure_yes (h : RefAt base w R room sp c rs) (s : ByteArray) (x : Sp) (hx : getS s.data.toList (rss rs) = some x) (hl : x.la = true) :
    Calls Try.prog 42 #[.pointer (some ⟨R, 0, none⟩), .string s] w fun e w' => ∃ sp n c, e = .returned (.tuple #[.slice sp n c, .int .i64 0]) ∧ x.y.length = n ∧ Bx w.heap.size w' sp c x.y ∧ Below w.heap.size w w' := by
  have FC := hide (rfind_calls h s)
  have H := hide h
  rw [rss_get, Option.map_eq_some_iff] at hx
  obtain ⟨v, hv, rfl⟩ := hx
  have HV := hide hv
  clear h hv
  go_enter Try.func42, Try.ntmps42
  go_wp2_with fail
  refine (unhide FC).mono ?_
  rintro e w2 ⟨rfl, hF⟩
  rcases hF with ⟨i, hi, he, rfl⟩ | ⟨hno, rfl⟩
  · have hi0 : ¬ ((i : Int) < 0) := by omega
    have hi1 : (i : Int) < (rs.length : Int) := by omega
    have hi2 : (0 : Int) ≤ (i : Int) := by omega
    have A0 := hide (show Below w2.heap.size w2 (w2.alloc (.cells #[] 5)) from (Below.refl _ _).alloc (Nat.le_refl _) _)
    have O0 := hide ((OwnB.empty w2 w2.heap.size (Nat.le_refl _)).toBx)
    obtain ⟨g, rfl, p0, p1, p2, p3⟩ := (unhide H).own.cells i hi
    obtain ⟨g', e', _, _, r2, _⟩ := ((unhide H).later (unhide A0)).own.cells i hi
    obtain rfl : g = g' := by simpa using e'
    have c1 := (unhide H).c1
    have d1 := ((unhide H).later (unhide A0)).c1
    have YC := hide (((unhide H).later (unhide A0)).own.dat _ (List.getElem_mem hi)).sure
    have Y8 := hide ((unhide H).own.dat _ (List.getElem_mem hi)).ok.y8
    have hvi : rs[i].2 = v := by
      have h1 := (unhide H).getI i hi
      rw [he, unhide HV] at h1
      exact (Option.some.inj h1).symm
    rw [hvi, hl] at p1
    generalize rs[i] = z at *
    obtain ⟨nm, t, yp, yc, up, uc⟩ := z
    simp only at hvi
    subst hvi
    simp only at p0 p1 p2 p3 YC Y8 r2
    clear he hi hl e'
    generalize rs.length = n at c1 hi1 d1
    generalize hny : t.y.length = ny at p2 r2 Y8
    have HNY := hide hny
    clear hny
    have hy8 := unhide Y8
    go_wp2_with (at_builtin; refine wpList_appendBx rfl (.tmp 25) (.tmp 33) rfl w2.heap.size (some ⟨w2.heap.size, 0, none⟩) 0 0 [] rfl rfl (by exact unhide O0) yp ny yc rfl t.y (unhide HNY) (by exact (unhide YC).bytes) (unhide YC).nil0 (by simp; omega) (by exact (unhide A0).size) ?_; intro sp3 n3 c3 W3 hn3 hX3 hG3; refine unhide ?_)
    refine hide ?_
    rw [List.nil_append] at hn3 hX3
    have B3 := hide (show Below w2.heap.size w2 W3 from (unhide A0).grown hG3.grown (unhide A0).size (fun g hg => by simp [blk] at hg; omega))
    have X3 := hide hX3
    clear hX3 hG3
    go_wp2
    go_ret2
    exact ⟨sp3, n3, c3, rfl, unhide hn3, unhide X3, unhide B3⟩
  · exact absurd (List.mem_map.2 ⟨_, getS_some (unhide HV), rfl⟩) hno
theorem rsure_no (h : RefAt base w R room sp c rs) (s : ByteArray) (hx : ∀ x, getS s.data.toList (rss rs) = some x → x.la = false) :
    Calls Try.prog 42 #[.pointer (some ⟨R, 0, none⟩), .string s] w fun e w' => e = .returned (.tuple #[.slice none 0 0, .int .i64 8]) ∧ w' = w := by
  have FC := hide (rfind_calls h s)
  have H := hide h
  have HV := hide hx
  clear h hx
  go_enter Try.func42, Try.ntmps42
  go_wp2_with fail
  refine (unhide FC).mono ?_
  rintro e w2 ⟨rfl, hF⟩
  rcases hF with ⟨i, hi, he, rfl⟩ | ⟨hno, rfl⟩
  · have hi0 : ¬ ((i : Int) < 0) := by omega
    have hi1 : (i : Int) < (rs.length : Int) := by omega
    have hi2 : (0 : Int) ≤ (i : Int) := by omega
    obtain ⟨g, rfl, p0, p1, p2, p3⟩ := (unhide H).own.cells i hi
    have c1 := (unhide H).c1
    have hl : rs[i].2.s.la = false := unhide HV _ (by rw [rss_get, ← he, (unhide H).getI i hi]; rfl)
    rw [hl] at p1
    clear he hl
    generalize rs[i].1 = q0 at *
    generalize rs[i].2 = q1 at *
    clear hi
    generalize rs.length = n at c1 hi1
    go_wp2
    go_ret2
    exact ⟨rfl, rfl⟩
  · go_wp2
    go_ret2
    exact ⟨rfl, rfl⟩
theorem RefAt.new (w : World) (hb : base ≤ w.heap.size) (room : Nat) : RefAt base (w.alloc (.cells #[.int .i64 (room : Int), .slice none 0 0] 68)) w.heap.size room none 0 [] :=
  ⟨heap_new w _, ⟨World.ownsRow_nil _ _ _ _, by simp⟩, hb, List.Pairwise.nil, by simp⟩
theorem rnew_calls (w : World) (hb : base ≤ w.heap.size) (z : Int) : Calls Try.prog 13 #[.int .i64 z] w fun e w' => e = .returned (.pointer (some ⟨w.heap.size, 0, none⟩)) ∧ RefAt base w' w.heap.size z.toNat none 0 [] ∧ Below w.heap.size w w' := by
  have HD := hide (fun r => RefAt.new (base := base) w hb r)
  have HB := hide (fun (r : Nat) => show Below w.heap.size w (w.alloc (.cells #[.int .i64 (r : Int), .slice none 0 0] 68)) from (Below.refl _ _).alloc (Nat.le_refl _) _)
  clear hb
  by_cases hz : z < 0
  · have e1 : z.toNat = 0 := by omega
    rw [e1]
    go_enter Try.func13, Try.ntmps13
    go_wp2
    go_ret
    exact ⟨rfl, unhide HD 0, unhide HB 0⟩
  · obtain ⟨r, rfl⟩ : ∃ r : Nat, z = (r : Int) := ⟨z.toNat, by omega⟩
    rw [Int.toNat_natCast]
    go_enter Try.func13, Try.ntmps13
    go_wp2
    go_ret
    exact ⟨rfl, unhide HD r, unhide HB r⟩
end
end Go.Proofs.Ytghdiemihceaoaa
