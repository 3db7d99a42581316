/- The document's disk: without, Used, Names. -/
import Derived.Test.YtagncghpfdjkmaaGreatDoorB32
import Derived.Deep.RegionHeld3
section
namespace Go.Proofs.YtagncghpfdjkmaaGreatDoor
open Go.ChangeShapes Go.WideShapes Go.ChangeAt Go.RowKit Go.Maps

set_option maxRecDepth 20000 in
set_option maxHeartbeats 40000000 in
theorem rwithout_calls (base : Nat) (w : World) (sp : Option Addr) (c : Nat) (rs : List Rf) (s : ByteArray) (h : OwnR base w sp c rs) (hf : rs.length ≤ 16) (hbs : base ≤ w.heap.size) :
    Calls Tryz.prog 111 #[.slice sp rs.length c, .string s] w fun e w' => ∃ sp' n' c', e = .returned (.slice sp' n' c') ∧ (delF s.data.toList rs).length = n' ∧ OwnR base w' sp' c' (delF s.data.toList rs) ∧ (∀ g, blk sp' = some g → w.heap.size ≤ g) ∧ Below w.heap.size w w' := by
  have B0 := hide (show Below w.heap.size w (w.alloc (.cells #[] 120)) from (Below.refl _ _).alloc (Nat.le_refl _) _)
  have O0 := hide (show OwnR base (w.alloc (.cells #[] 120)) (some ⟨w.heap.size, 0, none⟩) 0 [] from ⟨own_mono (OwnR.empty w w.heap.size (Nat.le_refl _)).row hbs, by simp⟩)
  have RC := hide (show ∀ W : World, Below w.heap.size w W → OwnR base W sp c rs from fun W b => h.later b)
  have HS := hide hbs
  clear h hbs
  obtain ⟨n, hn⟩ : ∃ n, rs.length = n := ⟨_, rfl⟩
  rw [hn] at hf
  rw [hn]
  have HN := hide hn
  clear hn
  go_enter Tryz.func111, Tryz.ntmps111
  go_wp2_with fail
  go_loopw [5, 6] (fun v5 v6 wr => ∃ (j m : Nat) (op : Option Addr) (oc : Nat), j ≤ n ∧ m ≤ j ∧ v5 = .slice op m oc ∧ v6 = .int .i64 (j : Int) ∧ Hid ((delF s.data.toList (rs.take j)).length = m) ∧ Hid (OwnR base wr op oc (delF s.data.toList (rs.take j))) ∧ Hid (∀ g, blk op = some g → w.heap.size ≤ g) ∧ Hid (Below w.heap.size w wr)) (fun _ v6 _ => n - (intOf v6).toNat)
  case atStart => exact ⟨0, 0, _, 0, by omega, by omega, rfl, rfl, rfl, O0, hide (fun g hg => by simp [blk] at hg; omega), B0⟩
  case round =>
    obtain ⟨j, m, op, oc, hj, hmj, rfl, rfl, HM, HO, HG, HB⟩ := hrel
    by_cases hjn : j < n
    · have y1 : (j : Int) < (n : Int) := by omega
      have y0 : (0 : Int) ≤ (j : Int) := by omega
      have hjr : j < rs.length := by rw [unhide HN]; exact hjn
      obtain ⟨g, rfl, p0, p1, p2, p3⟩ := (unhide RC wr (unhide HB)).cells j hjr
      have ZM := hide (List.getElem_mem hjr)
      have TK := hide (List.take_succ_eq_append_getElem hjr)
      generalize rs[j] = z at *
      by_cases heq : z.1 = s.data.toList
      · have z2 : ((str z.1).toList == s.toList) = true := by
          rw [ByteArray.toList_eq, ByteArray.toList_eq, str_list, heq]; simp
        have D2 := hide (show delF s.data.toList (rs.take (j + 1)) = delF s.data.toList (rs.take j) by
          rw [unhide TK]; simp [delF, List.filter_append, heq])
        clear heq
        go_wp2
        exact ⟨⟨j + 1, m, op, oc, by omega, by omega, rfl, by go_num, by rw [unhide D2]; exact unhide HM, by rw [unhide D2]; exact unhide HO, HG, HB⟩, by simp [intOf]; omega⟩
      · have z2 : ((str z.1).toList == s.toList) = false := by
          rw [ByteArray.toList_eq, ByteArray.toList_eq, str_list]; simpa using heq
        have D2 := hide (show delF s.data.toList (rs.take (j + 1)) = delF s.data.toList (rs.take j) ++ [z] by
          rw [unhide TK]; simp [delF, List.filter_append, heq])
        clear heq
        have AZ := hide (show Below wr.heap.size wr (wr.alloc (rfObj z)) from (Below.refl _ _).alloc (Nat.le_refl _) _)
        have OZ := hide ((unhide HO).later (unhide AZ))
        have BZ := hide ((unhide HB).trans ((unhide AZ).mono (unhide HB).size))
        have XZ := hide (heap_new wr (rfObj z))
        have DZ := hide ((unhide RC _ (unhide BZ)).dat z (unhide ZM))
        have SZ := hide (show base ≤ (wr.alloc (rfObj z)).heap.size from Nat.le_trans (unhide HS) (unhide BZ).size)
        unfold rfObj at AZ OZ BZ DZ SZ
        go_wp2_with (at_builtin; refine wpList_appendR rfl (.tmp 21) (.tmp 26) rfl base op m oc (delF s.data.toList (rs.take j)) rfl (unhide HM) (by exact unhide OZ) wr.heap.size z rfl (by exact unhide XZ) (by exact unhide DZ) (by omega) (by exact unhide SZ) ?_; intro sp9 c9 V9 hO9 hG9; refine unhide ?_)
        refine hide ?_
        rw [← unhide D2] at hO9
        have O9 := hide hO9
        have B9 := hide (show Below w.heap.size w V9 from (unhide BZ).grown hG9.grown (unhide BZ).size (fun g' hg' => unhide HG g' hg'))
        have G9 := hide (show ∀ g, blk sp9 = some g → w.heap.size ≤ g from fun g hg => by
          rcases hG9.lies g hg with h1 | h1
          · exact unhide HG g h1
          · exact Nat.le_trans (unhide BZ).size h1)
        clear hO9 hG9
        go_wp2
        exact ⟨⟨j + 1, m + 1, sp9, c9, by omega, by omega, rfl, by go_num, by rw [unhide D2, List.length_append, unhide HM]; rfl, unhide O9, unhide G9, unhide B9⟩, by simp [intOf]; omega⟩
    · have y1 : ¬ (j : Int) < (n : Int) := by omega
      have hjr : rs.take j = rs := List.take_of_length_le (by rw [unhide HN]; omega)
      rw [hjr] at HM HO
      clear hjr
      go_wp2
      go_ret
      exact ⟨op, m, oc, rfl, unhide HM, unhide HO, unhide HG, unhide HB⟩
def rss (rs : List Rf) : Ds := rs.map (fun x => (x.1, x.2.s))
section
variable {base R room : Nat} {w w' : World} {sp : Option Addr} {c : Nat} {rs : List Rf}
set_option maxRecDepth 20000 in
set_option maxHeartbeats 40000000 in
theorem rused_calls (h : RefAt base w R room sp c rs) : Calls Tryz.prog 36 #[.pointer (some ⟨R, 0, none⟩)] w fun e w' => e = .returned (.int .i64 (usedS (rss rs) : Int)) ∧ Below w.heap.size w w' := by
  have RC := hide (show ∀ W : World, Below w.heap.size w W → RefAt base W R room sp c rs from fun W b => h.later b)
  have h16 := h.few
  have N8 := hide (show ∀ x ∈ rs, x.2.s.now.length ≤ 262144 from fun x hx => by
    have := (h.own.dat x hx).ok
    rw [← this.now]; exact this.len _)
  clear h
  obtain ⟨n, hn⟩ : ∃ n, rs.length = n := ⟨_, rfl⟩
  rw [hn] at h16
  have HN := hide hn
  go_enter Tryz.func36, Tryz.ntmps36
  go_wp2_with fail
  go_loopw [3, 4] (fun v3 v4 wr => ∃ (j u : Nat), j ≤ n ∧ u ≤ j * 262144 ∧ v3 = .int .i64 (u : Int) ∧ v4 = .int .i64 (j : Int) ∧ Hid (usedS (rss (rs.take j)) = u) ∧ Hid (Below w.heap.size w wr)) (fun _ v4 _ => n - (intOf v4).toNat)
  case atStart => exact ⟨0, 0, by omega, by omega, rfl, rfl, rfl, hide (Below.refl _ _)⟩
  case round =>
    obtain ⟨j, u, hj, hu, rfl, rfl, HU, HB⟩ := hrel
    have c1 := (unhide RC wr (unhide HB)).c1
    rw [hn] at c1
    by_cases hjn : j < n
    · have y1 : (j : Int) < (n : Int) := by omega
      have y0 : (0 : Int) ≤ (j : Int) := by omega
      have hjr : j < rs.length := by omega
      obtain ⟨g, rfl, p0, p1, p2, p3⟩ := (unhide RC wr (unhide HB)).own.cells j hjr
      have NC := hide (now_calls base wr rs[j] ((unhide RC wr (unhide HB)).own.dat _ (List.getElem_mem hjr)))
      have U2 := hide (show usedS (rss (rs.take (j + 1))) = u + rs[j].2.s.now.length by
        rw [List.take_succ_eq_append_getElem hjr, ← unhide HU]
        simp only [rss, usedS, List.map_append, List.map_cons, List.map_nil, List.sum_append_nat, List.sum_cons, List.sum_nil, Nat.add_zero])
      generalize rs[j] = z at *
      obtain ⟨nm, s, yp, yc, up, uc⟩ := z
      unfold rfVal at NC
      simp only at p0 p1 p2 p3 NC U2
      clear hn
      go_wp2_with fail
      refine (unhide NC).mono ?_
      rintro e W ⟨sp2, n2, c2, rfl, hn2, h8, hX, b2⟩
      have B2 := hide ((unhide HB).trans (b2.mono (unhide HB).size))
      have U3 := hide (show usedS (rss (rs.take (j + 1))) = u + n2 by rw [unhide U2, hn2])
      clear hX b2 hn2
      go_wp2
      exact ⟨⟨j + 1, u + n2, by omega, by omega, by go_num, by go_num, unhide U3, unhide B2⟩, by simp [intOf]; omega⟩
    · have y1 : ¬ (j : Int) < (n : Int) := by omega
      have hjr : rs.take j = rs := List.take_of_length_le (by omega)
      rw [hjr] at HU
      clear hjr hn
      go_wp2
      go_ret
      exact ⟨by rw [unhide HU]; rfl, unhide HB⟩
set_option maxRecDepth 20000 in
set_option maxHeartbeats 40000000 in
theorem rnames_calls (h : RefAt base w R room sp c rs) : Calls Tryz.prog 34 #[.pointer (some ⟨R, 0, none⟩)] w fun e w' => ∃ sp' n' c', e = .returned (.slice sp' n' c') ∧ rs.length = n' ∧ OwnN w.heap.size w' sp' c' (rs.map (·.1)) ∧ Below w.heap.size w w' := by
  have RC := hide (show ∀ W : World, Below w.heap.size w W → RefAt base W R room sp c rs from fun W b => h.later b)
  have h16 := h.few
  have B0 := hide (show Below w.heap.size w (w.alloc (.cells #[] 9)) from (Below.refl _ _).alloc (Nat.le_refl _) _)
  have O0 := hide (show OwnN w.heap.size (w.alloc (.cells #[] 9)) (some ⟨w.heap.size, 0, none⟩) 0 [] from ⟨rfl, .inr ⟨w.heap.size, 0, #[], rfl, Nat.le_refl _, heap_new w _, Nat.le_refl _, by simp [maxLen], rfl, rfl⟩⟩)
  clear h
  obtain ⟨n, hn⟩ : ∃ n, rs.length = n := ⟨_, rfl⟩
  rw [hn] at h16
  have HN := hide hn
  go_enter Tryz.func34, Tryz.ntmps34
  go_wp2_with fail
  go_loopw [3, 4] (fun v3 v4 wr => ∃ (j : Nat) (op : Option Addr) (oc : Nat), j ≤ n ∧ v3 = .slice op j oc ∧ v4 = .int .i64 (j : Int) ∧ Hid (OwnN w.heap.size wr op oc ((rs.map (·.1)).take j)) ∧ Hid (Below w.heap.size w wr)) (fun _ v4 _ => n - (intOf v4).toNat)
  case atStart => exact ⟨0, _, 0, by omega, rfl, rfl, O0, B0⟩
  case round =>
    obtain ⟨j, op, oc, hj, rfl, rfl, HO, HB⟩ := hrel
    have c1 := (unhide RC wr (unhide HB)).c1
    rw [hn] at c1
    by_cases hjn : j < n
    · have y1 : (j : Int) < (n : Int) := by omega
      have y0 : (0 : Int) ≤ (j : Int) := by omega
      have hjr : j < rs.length := by omega
      obtain ⟨g, rfl, p0, _⟩ := (unhide RC wr (unhide HB)).own.cells j hjr
      have TK := hide (show (rs.map (·.1)).take (j + 1) = (rs.map (·.1)).take j ++ [rs[j].1] by
        rw [List.take_succ_eq_append_getElem (by simpa using hjr), List.getElem_map])
      have HL := hide (show ((rs.map (·.1)).take j).length = j by rw [List.length_take, List.length_map]; omega)
      generalize rs[j].1 = t at *
      have AZ := hide (show Below wr.heap.size wr (wr.alloc (.cells #[.string (str t)] 9)) from (Below.refl _ _).alloc (Nat.le_refl _) _)
      have OZ := hide ((unhide HO).later (unhide AZ))
      have BZ := hide ((unhide HB).trans ((unhide AZ).mono (unhide HB).size))
      have XZ := hide (heap_new wr (.cells #[.string (str t)] 9))
      clear hn
      go_wp2_with (at_builtin; refine wpList_appendN rfl (.tmp 19) (.tmp 28) rfl w.heap.size op j oc ((rs.map (·.1)).take j) rfl (unhide HL) (by exact unhide OZ) wr.heap.size t rfl (by exact unhide XZ) (by omega) (by exact (unhide BZ).size) ?_; intro sp9 c9 V9 hO9 hG9; refine unhide ?_)
      refine hide ?_
      rw [← unhide TK] at hO9
      have O9 := hide hO9
      have B9 := hide (show Below w.heap.size w V9 from (unhide BZ).grown hG9.grown (unhide BZ).size (fun g' hg' => ((unhide OZ).blk_is g' hg').1))
      clear hO9 hG9
      go_wp2
      exact ⟨⟨j + 1, sp9, c9, by omega, rfl, by go_num, unhide O9, unhide B9⟩, by simp [intOf]; omega⟩
    · have y1 : ¬ (j : Int) < (n : Int) := by omega
      obtain rfl : j = n := by omega
      have hjr : (rs.map (·.1)).take j = rs.map (·.1) := List.take_of_length_le (by rw [List.length_map]; omega)
      rw [hjr] at HO
      clear hjr hn
      go_wp2
      go_ret
      exact ⟨op, j, oc, rfl, unhide HN, unhide HO, unhide HB⟩
end
end Go.Proofs.YtagncghpfdjkmaaGreatDoor
end
/- The document's disk: Remove, Sync, Rename, Read, Sure. -/
section
namespace Go.Proofs.YtagncghpfdjkmaaGreatDoor
open Go.ChangeShapes Go.WideShapes Go.ChangeAt Go.RowKit Go.Maps

/-- What a call on the document's disk leaves. -/
structure RDone (base R room : Nat) (w : World) (sp : Option Addr) (rs : List Rf) (rs' : List Rf) (w' : World) : Prop where
  at_ : ∃ sp' c', RefAt base w' R room sp' c' rs' ∧ ∀ g, footR sp' rs' g → footR sp rs g ∨ w.heap.size ≤ g
  grown : w.grownBy w' (some R)
def REnd (base R room : Nat) (w : World) (sp : Option Addr) (rs : List Rf) (r : Nat × Ds) (e : Ending) (w' : World) : Prop :=
  e = .returned (.int .i64 (r.1 : Int)) ∧ ∃ rs', rss rs' = r.2 ∧ RDone base R room w sp rs rs' w'
section
variable {base R room : Nat} {w w' : World} {sp : Option Addr} {c : Nat} {rs rs' : List Rf}
theorem rss_get (k : Nm) (rs : List Rf) : getS k (rss rs) = (getS k rs).map (fun v => v.s) := getS_map (fun v : RV => v.s) k rs
theorem rss_put (k : Nm) (v : RV) (rs : List Rf) : rss (putF k v rs) = putF k v.s (rss rs) := putF_map (fun v : RV => v.s) k v rs
theorem rss_del (k : Nm) (rs : List Rf) : rss (delF k rs) = delF k (rss rs) := delF_map (fun v : RV => v.s) k rs
theorem RefAt.stay (h : RefAt base w R room sp c rs) (hb : Below w.heap.size w w') : RDone base R room w sp rs rs w' := ⟨⟨sp, c, h.later hb, fun _ hg => .inl hg⟩, grown_below (some R) hb⟩
theorem RefAt.stored (h : RefAt base w R room sp c rs) {W : World} (hb : Below w.heap.size w W) {sp' : Option Addr} {c' n' : Nat} (ho : OwnR base W sp' c' rs') (hn : rs'.length = n') (hr : Rises rs') (hf : rs'.length ≤ 16) (hfoot : ∀ g, footR sp' rs' g → footR sp rs g ∨ w.heap.size ≤ g) :
    RDone base R room w sp rs rs' (W.setCell ⟨R, 1, none⟩ (.slice sp' n' c')) := by
  subst hn
  refine ⟨⟨sp', c', (h.later hb).set sp' c' rs' ho hr hf, hfoot⟩, ?_⟩
  have hg := grown_set W R 1 (.slice sp' rs'.length c')
  exact ⟨hg.os.trans hb.os, hg.tape.trans hb.tape, hg.output.trans hb.output, Nat.le_trans hb.size hg.size, fun i hi hne => (hg.block i (Nat.lt_of_lt_of_le hi hb.size) hne).trans (hb.block i hi)⟩
theorem REnd.stay {r : Nat × Ds} {e : Ending} (h : RefAt base w R room sp c rs) (hb : Below w.heap.size w w') (he : e = .returned (.int .i64 (r.1 : Int))) (hr : r.2 = rss rs) : REnd base R room w sp rs r e w' := ⟨he, rs, hr.symm, h.stay hb⟩
theorem RefAt.getI (h : RefAt base w R room sp c rs) (i : Nat) (hi : i < rs.length) : getS rs[i].1 rs = some rs[i].2 := getS_mem h.rise (List.getElem_mem hi)
theorem foot_put (sp' : Option Addr) (k : Nm) (v : RV) (hr : Rises rs) {n0 : Nat} (h1 : ∀ g, blk sp' = some g → n0 ≤ g) (h2 : ∀ g, Rf.foot (k, v) g → footR sp rs g ∨ n0 ≤ g) : ∀ g, footR sp' (putF k v rs) g → footR sp rs g ∨ n0 ≤ g := by
  rintro g (hg | ⟨x, hx, hg⟩)
  · exact .inr (h1 g hg)
  · rcases (mem_putF hr x).1 hx with rfl | ⟨hx, _⟩
    · exact h2 g hg
    · exact .inl (.inr ⟨x, hx, hg⟩)
theorem foot_del (sp' : Option Addr) (k : Nm) {n0 : Nat} (h1 : ∀ g, blk sp' = some g → n0 ≤ g) : ∀ g, footR sp' (delF k rs) g → footR sp rs g ∨ n0 ≤ g := by
  rintro g (hg | ⟨x, hx, hg⟩)
  · exact .inr (h1 g hg)
  · exact .inl (.inr ⟨x, ((mem_delF x).1 hx).1, hg⟩)
theorem putF_old_len {k : Nm} {v : RV} (hr : Rises rs) (hk : k ∈ rs.map (·.1)) : (putF k v rs).length = rs.length := by rw [putF_length hr, if_pos hk]
set_option maxRecDepth 20000 in
set_option maxHeartbeats 4000000 in
theorem rremove_calls (h : RefAt base w R room sp c rs) (hbs : base ≤ w.heap.size) (s : ByteArray) :
    Calls Tryz.prog 72 #[.pointer (some ⟨R, 0, none⟩), .string s] w (REnd base R room w sp rs (dRemove s.data.toList (rss rs))) := by
  have FC := hide (rfind_calls h s)
  have c1 := h.c1
  have WC := hide (rwithout_calls base w sp c rs s h.own h.few hbs)
  have EN := hide (show s.data.toList ∉ rs.map (·.1) → REnd base R room w sp rs (dRemove s.data.toList (rss rs)) (.returned (.int .i64 8)) w from fun hn => by
    have hg := getS_none.2 hn
    exact REnd.stay h (Below.refl _ _) (by simp [dRemove, rss_get, hg]) (by simp [dRemove, rss_get, hg]))
  have EY := hide (show ∀ i (hi : i < rs.length), rs[i].1 = s.data.toList → ∀ W sp' n' c', Below w.heap.size w W → OwnR base W sp' c' (delF s.data.toList rs) → (delF s.data.toList rs).length = n' → (∀ g, blk sp' = some g → w.heap.size ≤ g) → REnd base R room w sp rs (dRemove s.data.toList (rss rs)) (.returned (.int .i64 0)) (W.setCell ⟨R, 1, none⟩ (.slice sp' n' c')) from fun i hi he W sp' n' c' hb ho hn hg => by
    have hgs := h.getI i hi
    rw [he] at hgs
    refine ⟨by simp [dRemove, rss_get, hgs], delF s.data.toList rs, by simp [dRemove, rss_get, hgs, rss_del], h.stored hb ho hn (h.rise.del _) (Nat.le_trans (List.length_filter_le _ _) h.few) (foot_del sp' _ hg)⟩)
  have VC := hide (fun W (hb : Below w.heap.size w W) => show W.cell? ⟨R, 1, none⟩ = some (.slice sp rs.length c) ∧ W.frozen? ⟨R, 1, none⟩ = false from ⟨(h.later hb).c1, (h.later hb).z1⟩)
  clear h hbs
  generalize hn : rs.length = n at c1 WC VC
  go_enter Tryz.func72, Tryz.ntmps72
  go_wp2_with fail
  refine (unhide FC).mono ?_
  rintro e w2 ⟨rfl, hF⟩
  rcases hF with ⟨i, hi, he, rfl⟩ | ⟨hno, rfl⟩
  · have hi0 : ¬ ((i : Int) < 0) := by omega
    have EY2 := hide (unhide EY i hi he)
    clear hi he EY hn
    go_wp2_with (go_at_call 111; refine (unhide WC).mono ?_; rintro e W ⟨sp', n', c', rfl, hn', ho', hg', hb'⟩; obtain ⟨v1, z1⟩ := unhide VC W hb'; have E3 := hide (unhide EY2 W sp' n' c' hb' ho' hn' hg'); clear hn' ho' hg' hb')
    go_ret
    exact unhide E3
  · have E3 := hide (unhide EN hno)
    clear hno hn
    go_wp2
    go_ret
    exact unhide E3
theorem SOk.synced {s : Sp} (h : SOk s) : SOk ⟨true, s.now, []⟩ := ⟨trivial, by simp, by rw [← h.now]; exact h.len _, by rw [← h.now]; exact h.lt _, by simp⟩
set_option maxRecDepth 20000 in
set_option maxHeartbeats 40000000 in
theorem rsync_calls (h : RefAt base w R room sp c rs) (hbs : base ≤ w.heap.size) (s : ByteArray) :
    Calls Tryz.prog 73 #[.pointer (some ⟨R, 0, none⟩), .string s] w (REnd base R room w sp rs (dSync s.data.toList (rss rs))) := by
  have FC := hide (rfind_calls h s)
  have EN := hide (show s.data.toList ∉ rs.map (·.1) → REnd base R room w sp rs (dSync s.data.toList (rss rs)) (.returned (.int .i64 8)) w from fun hn => by
    have hg := getS_none.2 hn
    exact REnd.stay h (Below.refl _ _) (by simp [dSync, rss_get, hg]) (by simp [dSync, rss_get, hg]))
  have VC := hide (fun W (hb : Below w.heap.size w W) => h.later hb)
  have H := hide h
  have HS := hide hbs
  clear h hbs
  go_enter Tryz.func73, Tryz.ntmps73
  go_wp2_with fail
  refine (unhide FC).mono ?_
  rintro e w2 ⟨rfl, hF⟩
  rcases hF with ⟨i, hi, he, rfl⟩ | ⟨hno, rfl⟩
  · have hi0 : ¬ ((i : Int) < 0) := by omega
    have hi1 : (i : Int) < (rs.length : Int) := by omega
    have hi2 : (0 : Int) ≤ (i : Int) := by omega
    obtain ⟨g, rfl, p0, p1, p2, p3⟩ := (unhide H).own.cells i hi
    have c1 := (unhide H).c1
    have NC := hide (fun W (hb : Below w2.heap.size w2 W) => now_calls base W rs[i] ((unhide VC W hb).own.dat _ (List.getElem_mem hi)))
    have PC := hide (show ∀ W, Below w2.heap.size w2 W → W.cell? ⟨R, 1, none⟩ = some (.slice (some ⟨g, 0, none⟩) rs.length c) ∧ W.frozen? ⟨R, 1, none⟩ = false ∧ W.cell? ⟨g, i * 4, none⟩ = some (.string (str rs[i].1)) ∧ W.cell? ⟨g, i * 4 + 1, none⟩ = some (.bool rs[i].2.s.la) ∧ W.cell? ⟨g, i * 4 + 2, none⟩ = some (.slice rs[i].2.yp rs[i].2.s.y.length rs[i].2.yc) ∧ W.cell? ⟨g, i * 4 + 3, none⟩ = some (.slice rs[i].2.up rs[i].2.s.us.length rs[i].2.uc) from fun W b => by
      obtain ⟨g', e', q⟩ := (unhide VC W b).own.cells i hi
      obtain rfl : g = g' := by simpa using e'
      exact ⟨(unhide VC W b).c1, (unhide VC W b).z1, q⟩)
    have GI := hide (show getS s.data.toList rs = some rs[i].2 by rw [← he]; exact (unhide H).getI i hi)
    have OK := hide (((unhide H).own.dat _ (List.getElem_mem hi)).ok)
    have KM := hide (show s.data.toList ∈ rs.map (·.1) by rw [← he]; exact List.mem_map.2 ⟨_, List.getElem_mem hi, rfl⟩)
    generalize rs[i] = z at *
    obtain ⟨nm, t, yp, yc, up, uc⟩ := z
    unfold rfVal at NC
    simp only at he p0 p1 p2 p3 NC PC OK GI
    have UC := hide (show ∀ W sp2 n2 c2, Below w2.heap.size w2 W → t.now.length = n2 → Bx w2.heap.size W sp2 c2 t.now → Calls Tryz.prog 86 #[.slice (some ⟨g, 0, none⟩) rs.length c, .agg #[.string s, .bool true, .slice sp2 n2 c2, .slice none 0 0]] W fun e w' => ∃ sp' n' c', e = .returned (.slice sp' n' c') ∧ REnd base R room w2 (some ⟨g, 0, none⟩) rs (dSync s.data.toList (rss rs)) (.returned (.int .i64 0)) (w'.setCell ⟨R, 1, none⟩ (.slice sp' n' c')) ∧ Below w2.heap.size w2 w' from fun W sp2 n2 c2 hb hn2 hX => by
      subst hn2
      have hle := Nat.le_trans (unhide HS) hb.size
      have hat : RfAt base W (s.data.toList, ⟨⟨true, t.now, []⟩, sp2, c2, none, 0⟩) := ⟨(unhide OK).synced, hX.mono (unhide HS), W.ownsRow_nil base 131 3, by simp [Sp.us, usL]⟩
      have := rput_calls base W (some ⟨g, 0, none⟩) c rs (s.data.toList, ⟨⟨true, t.now, []⟩, sp2, c2, none, 0⟩) (unhide VC W hb).own (unhide H).rise (unhide H).few hat hle
      unfold rfVal at this
      simp only [str_of'] at this
      refine this.mono ?_
      rintro e W' ⟨sp', n', c', rfl, hn', ho', hg', hb'⟩
      have hbb := hb.trans (hb'.mono hb.size)
      refine ⟨sp', n', c', rfl, ⟨by simp [dSync, rss_get, unhide GI], _, ?_, (unhide H).stored hbb ho' hn' ((unhide H).rise.put _ _) (by rw [putF_old_len (unhide H).rise (unhide KM)]; exact (unhide H).few) (foot_put sp' _ _ (unhide H).rise (fun g hg => Nat.le_trans hb.size (hg' g hg)) ?_)⟩, hbb⟩
      · rw [rss_put]
        simp [dSync, rss_get, unhide GI]
      · rintro g (hg | hg)
        · exact .inr (hX.isT g hg).1
        · cases hg)
    have nn : ∀ x : Nat, x = rs.length → x = rs.length := fun _ h => h
    generalize rs.length = n at c1 PC UC hi1
    clear he hi nn
    obtain ⟨r1, r2, _⟩ := unhide PC w2 (Below.refl _ _)
    go_wp2_with fail
    go_region_law (first
      | (go_simp
         go_at_call 85
         refine (unhide NC w2.drew ((Below.refl _ _).drew)).mono ?_
         rintro e W ⟨sp2, n2, c2, rfl, hn2, h8, hX, b2⟩
         have BN := hide (show Below w2.heap.size w2 W from ⟨b2.os, b2.tape, b2.output, b2.size, b2.block⟩)
         have UX := hide (unhide UC W sp2 n2 c2 (unhide BN) hn2 hX)
         obtain ⟨u1, u2, _⟩ := unhide PC W (unhide BN)
         clear b2 hX hn2)
      | (go_simp
         go_at_call 86
         refine (unhide UX).mono ?_
         rintro e W' ⟨sp', n', c', rfl, hE, b3⟩
         have E3 := hide hE
         obtain ⟨v1, z1, _⟩ := unhide PC W' b3
         clear hE b3))
    all_goals
      go_wp2
      go_ret
      exact unhide E3
  · have E3 := hide (unhide EN hno)
    clear hno
    go_wp2
    go_ret
    exact unhide E3
end
end Go.Proofs.YtagncghpfdjkmaaGreatDoor
end
/- The document's disk: units appended; Cut, Rename, Read, Sure, New. -/
section
namespace Go.Proofs.YtagncghpfdjkmaaGreatDoor
open Go.ChangeShapes Go.WideShapes Go.ChangeAt Go.RowKit Go.Maps

theorem u_oneCell (us : List Un) : ∀ v ∈ us.flatMap uRow, v.oneCell' = true := by
  intro v hv
  obtain ⟨u, _, hu⟩ := List.mem_flatMap.1 hv
  simp only [uRow, List.mem_cons, List.not_mem_nil, or_false] at hu
  rcases hu with rfl | rfl | rfl <;> rfl
theorem infoU : (Tryz.prog.info? 131).map (fun i => (i.zero, i.size, i.bytes)) = some (some (.agg #[.bool false, .int .i64 0, .int .u8 0]), 3, 24) := by kernel_rfl
section
variable {base b2 : Nat} {w w' : World} {sp xp : Option Addr} {c xc : Nat} {us vs : List Un}
theorem OwnU.empty (w : World) (base : Nat) (hb : base ≤ w.heap.size) : OwnU base (w.alloc (.cells #[] 131)) (some ⟨w.heap.size, 0, none⟩) 0 [] :=
  ⟨rfl, .inr ⟨w.heap.size, 0, #[], rfl, hb, heap_new w _, Nat.le_refl _, by simp [maxLen], rfl, rfl⟩⟩
theorem OwnU.one {B : Nat} (u : Un) (hB : w.heap[B]? = some (.cells (uRow u).toArray 131 (0, 0))) : OwnU 0 w (some ⟨B, 0, none⟩) 1 [u] :=
  ⟨by simp [uRow], .inr ⟨B, 1, (uRow u).toArray, rfl, Nat.zero_le _, hB, Nat.le_refl _, by simp [maxLen], rfl, by simp [uRow]⟩⟩
theorem run_appendU (hown : OwnU base w sp c us) (src : OwnU b2 w xp xc vs) (hn : (us.length + vs.length) * 24 ≤ 140737488355328) (hbase : base ≤ w.heap.size) (ty : TypeId) :
    ∃ sp' c' w', (Builtin.append_ #[118, 118] ty #[.slice sp us.length c, .slice xp vs.length xc]).run Tryz.prog w = .ok (.slice sp' (us.length + vs.length) c') w' ∧ OwnU base w' sp' c' (us ++ vs) ∧ Grew w sp w' sp' := by
  obtain ⟨i0, hi, hz0, hz1, hz2⟩ := info_parts infoU
  have hcap : us.length ≤ c ∧ (sp = none → c = 0) := by
    rcases hown.2 with ⟨hv, h0⟩ | ⟨g, cap, cur, hv, _, _, hle, _⟩
    · simp only [Value.slice.injEq] at hv
      exact ⟨by omega, fun _ => hv.2.2⟩
    · simp only [Value.slice.injEq] at hv
      exact ⟨by rw [hv.2.2]; exact hle, fun e => by rw [hv.1] at e; cases e⟩
  rcases src.2 with ⟨hv, h0⟩ | ⟨g, cap, cur, hv, _, hg, hle, hmx, hsz, ht⟩
  · simp only [Value.slice.injEq] at hv
    obtain ⟨rfl, _, rfl⟩ := hv
    have hvs : vs = [] := List.eq_nil_of_length_eq_zero h0
    subst hvs
    refine ⟨sp, c, w, ?_, by rw [List.append_nil]; exact hown, Grew.refl _ _⟩
    cases sp with
    | none =>
      have h0 : us = [] := by
        rcases hown.2 with ⟨_, h0⟩ | ⟨g, cap, cur, hv, _⟩
        · exact List.eq_nil_of_length_eq_zero h0
        · simp only [Value.slice.injEq] at hv; cases hv.1
      subst h0
      rw [hcap.2 rfl]
      simp [Builtin.append_, run_underlying Tryz.underlying118, sizeOf, typeInfo, hi, Builtin.lenOf, Builtin.firstCells]
    | some ad =>
      simp [Builtin.append_, run_underlying Tryz.underlying118, sizeOf, typeInfo, hi, Builtin.lenOf, Builtin.firstCells, hcap.1, storeCells]
  · simp only [Value.slice.injEq] at hv
    obtain ⟨rfl, _, rfl⟩ := hv
    obtain ⟨v', w', hrun, h1, h2, _, h5⟩ := run_append_own_at (P := Tryz.prog) w base 118 ty 131 i0 _ 3 24 Tryz.underlying118 hi hz0 hz1 hz2 rfl (by omega) _ _ _ hown ⟨g, 0, none⟩ vs.length xc (vs.flatMap uRow) (rowsU_length vs)
      (fun j u hu => by
        rw [Addr.add_lit, Nat.zero_add, cell_of_row w g j cur _ _ hg]
        have hlt : j < vs.length * 3 := by rw [← rowsU_length]; exact (List.getElem?_eq_some_iff.1 hu).1
        rw [← ht, List.getElem?_take, if_pos hlt] at hu
        simpa using hu) (u_oneCell vs) (by simp only [maxLen]; omega) (by omega) hbase
    have hv : ∃ sp' c', v' = .slice sp' (us.length + vs.length) c' := by
      rcases h1.2 with ⟨hv, h0⟩ | ⟨g, cap, cur, hv, _⟩
      · exact ⟨none, 0, by rw [hv, h0]⟩
      · exact ⟨_, _, hv⟩
    obtain ⟨sp', c', rfl⟩ := hv
    rw [ownBlock_slice] at h2
    rw [ownBlock_slice, ownBlock_slice] at h5
    refine ⟨sp', c', w', hrun, ?_, ⟨h2, fun g hg => ?_⟩⟩
    · show w'.ownsRow base 131 3 (.slice sp' (us ++ vs).length c') (us ++ vs).length ((us ++ vs).flatMap uRow)
      rw [List.flatMap_append, List.length_append]
      exact h1
    · rcases h5 with h5 | h5
      · exact .inl (h5.symm.trans hg)
      · rw [h5] at hg
        exact .inr (Nat.le_of_eq (Option.some.inj hg))
end
theorem wpList_appendU {w : World} {ops : Array Oper} {rest : List Oper} {o : Oper} {a : Act} {Q : Exit → Act → World → Prop} (hgd : o.guard = none) (s x : Operand)
    (ho : o.op = .call { callee := .builtin .append, args := #[s, x], argTypes := #[118, 118] })
    (base b2 : Nat) (sp xp : Option Addr) (n m c xc : Nat) (us vs : List Un) (hs : a.eval s = .slice sp n c) (hx : a.eval x = .slice xp m xc) (hn : us.length = n) (hm : vs.length = m) (hown : OwnU base w sp c us) (src : OwnU b2 w xp xc vs) (hsz : (n + m) * 24 ≤ 140737488355328) (hbase : base ≤ w.heap.size)
    (hk : ∀ sp' n' c' w', Hid ((us ++ vs).length = n') → OwnU base w' sp' c' (us ++ vs) → Grew w sp w' sp' → wpList Tryz.prog ops Q rest (a.put o.dst (.slice sp' n' c')) w') :
    wpList Tryz.prog ops Q (o :: rest) a w := by
  subst hn hm
  refine wpList_plain hgd fun K hK => ?_
  obtain ⟨sp', c', w', hrun, h1, h2⟩ := run_appendU hown src hsz hbase o.type
  unfold Oper.wp
  simp [execOp, ho, resolve, invoke, builtin, hs, hx, hrun, Result.andThen]
  have := hK _ _ (hk sp' (us ++ vs).length c' w' rfl h1 h2)
  rw [List.length_append] at this
  exact this
section
variable {base R room : Nat} {w w' : World} {sp : Option Addr} {c : Nat} {rs rs' : List Rf}
theorem rread_yes (h : RefAt base w R room sp c rs) (s : ByteArray) (x : Sp) (hx : getS s.data.toList (rss rs) = some x) :
    Calls Tryz.prog 89 #[.pointer (some ⟨R, 0, none⟩), .string s] w fun e w' => ∃ sp n c, e = .returned (.tuple #[.slice sp n c, .int .i64 0]) ∧ x.now.length = n ∧ Bx w.heap.size w' sp c x.now ∧ Below w.heap.size w w' := by
  have FC := hide (rfind_calls h s)
  have H := hide h
  rw [rss_get, Option.map_eq_some_iff] at hx
  obtain ⟨v, hv, rfl⟩ := hx
  have HV := hide hv
  clear h hv
  go_enter Tryz.func89, Tryz.ntmps89
  go_wp2_with fail
  refine (unhide FC).mono ?_
  rintro e w2 ⟨rfl, hF⟩
  rcases hF with ⟨i, hi, he, rfl⟩ | ⟨hno, rfl⟩
  · have hi0 : ¬ ((i : Int) < 0) := by omega
    have hi1 : (i : Int) < (rs.length : Int) := by omega
    have hi2 : (0 : Int) ≤ (i : Int) := by omega
    obtain ⟨g, rfl, p0, p1, p2, p3⟩ := (unhide H).own.cells i hi
    have c1 := (unhide H).c1
    have NC := hide (now_calls base w2 rs[i] ((unhide H).own.dat _ (List.getElem_mem hi)))
    have hvi : rs[i].2 = v := by
      have h1 := (unhide H).getI i hi
      rw [he, unhide HV] at h1
      exact (Option.some.inj h1).symm
    generalize rs[i] = z at *
    obtain ⟨nm, t, yp, yc, up, uc⟩ := z
    simp only at hvi
    subst hvi
    unfold rfVal at NC
    simp only at p0 p1 p2 p3 NC
    clear he hi
    generalize rs.length = n at c1 hi1
    go_wp2_with (go_at_call 85; refine (unhide NC).mono ?_; rintro e W ⟨sp2, n2, c2, rfl, hn2, h8, hX, b2⟩; have N2 := hide hn2; have X2 := hide hX; have B2 := hide b2; clear hn2 hX b2)
    go_ret2
    exact ⟨sp2, n2, c2, rfl, unhide N2, unhide X2, unhide B2⟩
  · exact absurd (List.mem_map.2 ⟨_, getS_some (unhide HV), rfl⟩) hno
theorem rread_no (h : RefAt base w R room sp c rs) (s : ByteArray) (hx : getS s.data.toList (rss rs) = none) :
    Calls Tryz.prog 89 #[.pointer (some ⟨R, 0, none⟩), .string s] w fun e w' => e = .returned (.tuple #[.slice none 0 0, .int .i64 8]) ∧ w' = w := by
  have FC := hide (rfind_calls h s)
  rw [rss_get, Option.map_eq_none_iff, getS_none] at hx
  have HV := hide hx
  clear h hx
  go_enter Tryz.func89, Tryz.ntmps89
  go_wp2_with fail
  refine (unhide FC).mono ?_
  rintro e w2 ⟨rfl, hF⟩
  rcases hF with ⟨i, hi, he, rfl⟩ | ⟨hno, rfl⟩
  · exact absurd (he ▸ List.mem_map.2 ⟨_, List.getElem_mem hi, rfl⟩) (unhide HV)
  · go_wp2
    go_ret2
    exact ⟨rfl, rfl⟩
theorem RefAt.new (w : World) (hb : base ≤ w.heap.size) (room : Nat) : RefAt base (w.alloc (.cells #[.int .i64 (room : Int), .slice none 0 0] 108)) w.heap.size room none 0 [] :=
  ⟨heap_new w _, ⟨World.ownsRow_nil _ _ _ _, by simp⟩, hb, List.Pairwise.nil, by simp⟩
theorem rnew_calls (w : World) (hb : base ≤ w.heap.size) (z : Int) : Calls Tryz.prog 23 #[.int .i64 z] w fun e w' => e = .returned (.pointer (some ⟨w.heap.size, 0, none⟩)) ∧ RefAt base w' w.heap.size z.toNat none 0 [] ∧ Below w.heap.size w w' := by
  have HD := hide (fun r => RefAt.new (base := base) w hb r)
  have HB := hide (fun (r : Nat) => show Below w.heap.size w (w.alloc (.cells #[.int .i64 (r : Int), .slice none 0 0] 108)) from (Below.refl _ _).alloc (Nat.le_refl _) _)
  clear hb
  by_cases hz : z < 0
  · have e1 : z.toNat = 0 := by omega
    rw [e1]
    go_enter Tryz.func23, Tryz.ntmps23
    go_wp2
    go_ret
    exact ⟨rfl, unhide HD 0, unhide HB 0⟩
  · obtain ⟨r, rfl⟩ : ∃ r : Nat, z = (r : Int) := ⟨z.toNat, by omega⟩
    rw [Int.toNat_natCast]
    go_enter Tryz.func23, Tryz.ntmps23
    go_wp2
    go_ret
    exact ⟨rfl, unhide HD r, unhide HB r⟩
end
end Go.Proofs.YtagncghpfdjkmaaGreatDoor
end
/- The document's disk: Cut, Rename. -/
section
namespace Go.Proofs.YtagncghpfdjkmaaGreatDoor
open Go.ChangeShapes Go.WideShapes Go.ChangeAt Go.RowKit Go.Maps

theorem usL_snoc (cs : List Chg) (c : Chg) : usL (cs ++ [c]) = usL cs ++ unitsOf c := by simp [usL]
theorem us_le : ∀ (cs : List Chg), (∀ c ∈ cs, smallC c) → (usL cs).length ≤ cs.length * 262144
  | [], _ => by simp [usL]
  | c :: cs, h => by
    have ih := us_le cs (fun x hx => h x (List.mem_cons_of_mem _ hx))
    have hc := h c List.mem_cons_self
    have hl : (usL (c :: cs)).length = unitsC c + (usL cs).length := by simp [usL, unitsOf_length]
    have h1 : unitsC c ≤ 262144 := by
      unfold unitsC
      cases hb : c.1 with
      | true => simp
      | false => simp only [Bool.false_eq_true, if_false]; have := (hc.1 hb).1; omega
    rw [hl, List.length_cons]
    omega
section
variable {base R room : Nat} {w w' : World} {sp : Option Addr} {c : Nat} {rs rs' : List Rf}
/-- A file with other changes comes into the list: what put then does. -/
theorem RefAt.putS (h : RefAt base w R room sp c rs) (hbs : base ≤ w.heap.size) (nm : Nm) (v : RV) (W : World) (hb : Below w.heap.size w W) (hat : RfAt base W (nm, v)) (hfew : (putF nm v rs).length ≤ 16) (hfoot : ∀ g, Rf.foot (nm, v) g → footR sp rs g ∨ w.heap.size ≤ g) :
    Calls Tryz.prog 86 #[.slice sp rs.length c, .agg #[.string (str nm), .bool v.s.la, .slice v.yp v.s.y.length v.yc, .slice v.up v.s.us.length v.uc]] W fun e w' => ∃ sp' n' c', e = .returned (.slice sp' n' c') ∧ RDone base R room w sp rs (putF nm v rs) (w'.setCell ⟨R, 1, none⟩ (.slice sp' n' c')) ∧ Below w.heap.size w w' := by
  have := rput_calls base W sp c rs (nm, v) (h.later hb).own h.rise h.few hat (Nat.le_trans hbs hb.size)
  unfold rfVal at this
  refine this.mono ?_
  rintro e W' ⟨sp', n', c', rfl, hn', ho', hg', hb'⟩
  have hbb := hb.trans (hb'.mono hb.size)
  exact ⟨sp', n', c', rfl, h.stored hbb ho' hn' (h.rise.put _ _) hfew (foot_put sp' _ _ h.rise (fun g hg => Nat.le_trans hb.size (hg' g hg)) hfoot), hbb⟩
end
end Go.Proofs.YtagncghpfdjkmaaGreatDoor
end
