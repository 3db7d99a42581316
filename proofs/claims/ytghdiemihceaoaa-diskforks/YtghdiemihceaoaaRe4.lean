/- The document's disk: without, Used, Names. -/
import Derived.Test.YtghdiemihceaoaaRe3
namespace Go.Proofs.Ytghdiemihceaoaa
open Go.ChangeShapes Go.WideShapes Go.ChangeAt Go.RowKit Go.Maps

set_option maxRecDepth 20000 in
set_option maxHeartbeats 40000000 in
theorem rwithout_calls (base : Nat) (w : World) (sp : Option Addr) (c : Nat) (rs : List Rf) (s : ByteArray) (h : OwnR base w sp c rs) (hf : rs.length ≤ 16) (hbs : base ≤ w.heap.size) :
    Calls Try.prog 60 #[.slice sp rs.length c, .string s] w fun e w' => ∃ sp' n' c', e = .returned (.slice sp' n' c') ∧ (delF s.data.toList rs).length = n' ∧ OwnR base w' sp' c' (delF s.data.toList rs) ∧ (∀ g, blk sp' = some g → w.heap.size ≤ g) ∧ Below w.heap.size w w' := by
  have B0 := hide (show Below w.heap.size w (w.alloc (.cells #[] 80)) from (Below.refl _ _).alloc (Nat.le_refl _) _)
  have O0 := hide (show OwnR base (w.alloc (.cells #[] 80)) (some ⟨w.heap.size, 0, none⟩) 0 [] from ⟨own_mono (OwnR.empty w w.heap.size (Nat.le_refl _)).row hbs, by simp⟩)
  have RC := hide (show ∀ W : World, Below w.heap.size w W → OwnR base W sp c rs from fun W b => h.later b)
  have HS := hide hbs
  clear h hbs
  obtain ⟨n, hn⟩ : ∃ n, rs.length = n := ⟨_, rfl⟩
  rw [hn] at hf
  rw [hn]
  have HN := hide hn
  clear hn
  go_enter Try.func60, Try.ntmps60
  go_wp2_with fail
  go_loopw [5, 6] (fun v5 v6 wr => ∃ (j m : Nat) (op : Option Addr) (oc : Nat), j ≤ n ∧ m ≤ j ∧ v5 = .slice op m oc ∧ v6 = .int .i64 (j : Int) ∧ Hid ((delF s.data.toList (rs.take j)).length = m) ∧ Hid (OwnR base wr op oc (delF s.data.toList (rs.take j))) ∧ Hid (∀ g, blk op = some g → w.heap.size ≤ g) ∧ Hid (Below w.heap.size w wr)) (fun _ v6 _ => n - (intOf v6).toNat)
  case atStart => exact ⟨0, 0, _, 0, by omega, by omega, rfl, rfl, rfl, O0, hide (fun g hg => by simp [blk] at hg; omega), B0⟩
  case round =>
    obtain ⟨j, m, op, oc, hj, hmj, rfl, rfl, HM, HO, HG, HB⟩ := hrel
    by_cases hjn : j < n
    · have y1 : (j : Int) < (n : Int) := by omega
      have y0 : (0 : Int) ≤ (j : Int) := by omega
      have hjr : j < rs.length := by rw [unhide HN]; exact hjn
      obtain ⟨g, rfl, p0, p1, p2, p3⟩ := (unhide RC wr (unhide HB)).cells j hjr
      have ZM := hide (List.getElem_mem hjr)
      have TK := hide (List.take_succ_eq_append_getElem hjr)
      generalize rs[j] = z at *
      by_cases heq : z.1 = s.data.toList
      · have z2 : ((str z.1).toList == s.toList) = true := by
          rw [ByteArray.toList_eq, ByteArray.toList_eq, str_list, heq]; simp
        have D2 := hide (show delF s.data.toList (rs.take (j + 1)) = delF s.data.toList (rs.take j) by
          rw [unhide TK]; simp [delF, List.filter_append, heq])
        clear heq
        go_wp2
        exact ⟨⟨j + 1, m, op, oc, by omega, by omega, rfl, by go_num, by rw [unhide D2]; exact unhide HM, by rw [unhide D2]; exact unhide HO, HG, HB⟩, by simp [intOf]; omega⟩
      · have z2 : ((str z.1).toList == s.toList) = false := by
          rw [ByteArray.toList_eq, ByteArray.toList_eq, str_list]; simpa using heq
        have D2 := hide (show delF s.data.toList (rs.take (j + 1)) = delF s.data.toList (rs.take j) ++ [z] by
          rw [unhide TK]; simp [delF, List.filter_append, heq])
        clear heq
        have AZ := hide (show Below wr.heap.size wr (wr.alloc (rfObj z)) from (Below.refl _ _).alloc (Nat.le_refl _) _)
        have OZ := hide ((unhide HO).later (unhide AZ))
        have BZ := hide ((unhide HB).trans ((unhide AZ).mono (unhide HB).size))
        have XZ := hide (heap_new wr (rfObj z))
        have DZ := hide ((unhide RC _ (unhide BZ)).dat z (unhide ZM))
        have SZ := hide (show base ≤ (wr.alloc (rfObj z)).heap.size from Nat.le_trans (unhide HS) (unhide BZ).size)
        unfold rfObj at AZ OZ BZ DZ SZ
        go_wp2_with (at_builtin; refine wpList_appendR rfl (.tmp 21) (.tmp 26) rfl base op m oc (delF s.data.toList (rs.take j)) rfl (unhide HM) (by exact unhide OZ) wr.heap.size z rfl (by exact unhide XZ) (by exact unhide DZ) (by omega) (by exact unhide SZ) ?_; intro sp9 c9 V9 hO9 hG9; refine unhide ?_)
        refine hide ?_
        rw [← unhide D2] at hO9
        have O9 := hide hO9
        have B9 := hide (show Below w.heap.size w V9 from (unhide BZ).grown hG9.grown (unhide BZ).size (fun g' hg' => unhide HG g' hg'))
        have G9 := hide (show ∀ g, blk sp9 = some g → w.heap.size ≤ g from fun g hg => by
          rcases hG9.lies g hg with h1 | h1
          · exact unhide HG g h1
          · exact Nat.le_trans (unhide BZ).size h1)
        clear hO9 hG9
        go_wp2
        exact ⟨⟨j + 1, m + 1, sp9, c9, by omega, by omega, rfl, by go_num, by rw [unhide D2, List.length_append, unhide HM]; rfl, unhide O9, unhide G9, unhide B9⟩, by simp [intOf]; omega⟩
    · have y1 : ¬ (j : Int) < (n : Int) := by omega
      have hjr : rs.take j = rs := List.take_of_length_le (by rw [unhide HN]; omega)
      rw [hjr] at HM HO
      clear hjr
      go_wp2
      go_ret
      exact ⟨op, m, oc, rfl, unhide HM, unhide HO, unhide HG, unhide HB⟩
def rss (rs : List Rf) : Ds := rs.map (fun x => (x.1, x.2.s))
section
variable {base R room : Nat} {w w' : World} {sp : Option Addr} {c : Nat} {rs : List Rf}
set_option maxRecDepth 20000 in
set_option maxHeartbeats 40000000 in
theorem rused_calls (h : RefAt base w R room sp c rs) : Calls Try.prog 41 #[.pointer (some ⟨R, 0, none⟩)] w fun e w' => e = .returned (.int .i64 (usedS (rss rs) : Int)) ∧ Below w.heap.size w w' := by
  have RC := hide (show ∀ W : World, Below w.heap.size w W → RefAt base W R room sp c rs from fun W b => h.later b)
  have h16 := h.few
  have N8 := hide (show ∀ x ∈ rs, x.2.s.now.length ≤ 262144 from fun x hx => by
    have := (h.own.dat x hx).ok
    rw [← this.now]; exact this.len _)
  clear h
  obtain ⟨n, hn⟩ : ∃ n, rs.length = n := ⟨_, rfl⟩
  rw [hn] at h16
  have HN := hide hn
  go_enter Try.func41, Try.ntmps41
  go_wp2_with fail
  go_loopw [3, 4] (fun v3 v4 wr => ∃ (j u : Nat), j ≤ n ∧ u ≤ j * 262144 ∧ v3 = .int .i64 (u : Int) ∧ v4 = .int .i64 (j : Int) ∧ Hid (usedS (rss (rs.take j)) = u) ∧ Hid (Below w.heap.size w wr)) (fun _ v4 _ => n - (intOf v4).toNat)
  case atStart => exact ⟨0, 0, by omega, by omega, rfl, rfl, rfl, hide (Below.refl _ _)⟩
  case round =>
    obtain ⟨j, u, hj, hu, rfl, rfl, HU, HB⟩ := hrel
    have c1 := (unhide RC wr (unhide HB)).c1
    rw [hn] at c1
    by_cases hjn : j < n
    · have y1 : (j : Int) < (n : Int) := by omega
      have y0 : (0 : Int) ≤ (j : Int) := by omega
      have hjr : j < rs.length := by omega
      obtain ⟨g, rfl, p0, p1, p2, p3⟩ := (unhide RC wr (unhide HB)).own.cells j hjr
      have NC := hide (now_calls base wr rs[j] ((unhide RC wr (unhide HB)).own.dat _ (List.getElem_mem hjr)))
      have U2 := hide (show usedS (rss (rs.take (j + 1))) = u + rs[j].2.s.now.length by
        rw [List.take_succ_eq_append_getElem hjr, ← unhide HU]
        simp only [rss, usedS, List.map_append, List.map_cons, List.map_nil, List.sum_append_nat, List.sum_cons, List.sum_nil, Nat.add_zero])
      generalize rs[j] = z at *
      obtain ⟨nm, s, yp, yc, up, uc⟩ := z
      unfold rfVal at NC
      simp only at p0 p1 p2 p3 NC U2
      clear hn
      go_wp2_with fail
      refine (unhide NC).mono ?_
      rintro e W ⟨sp2, n2, c2, rfl, hn2, h8, hX, b2⟩
      have B2 := hide ((unhide HB).trans (b2.mono (unhide HB).size))
      have U3 := hide (show usedS (rss (rs.take (j + 1))) = u + n2 by rw [unhide U2, hn2])
      clear hX b2 hn2
      go_wp2
      exact ⟨⟨j + 1, u + n2, by omega, by omega, by go_num, by go_num, unhide U3, unhide B2⟩, by simp [intOf]; omega⟩
    · have y1 : ¬ (j : Int) < (n : Int) := by omega
      have hjr : rs.take j = rs := List.take_of_length_le (by omega)
      rw [hjr] at HU
      clear hjr hn
      go_wp2
      go_ret
      exact ⟨by rw [unhide HU]; rfl, unhide HB⟩
set_option maxRecDepth 20000 in
set_option maxHeartbeats 40000000 in
theorem rnames_calls (h : RefAt base w R room sp c rs) : Calls Try.prog 40 #[.pointer (some ⟨R, 0, none⟩)] w fun e w' => ∃ sp' n' c', e = .returned (.slice sp' n' c') ∧ rs.length = n' ∧ OwnN w.heap.size w' sp' c' (rs.map (·.1)) ∧ Below w.heap.size w w' := by
  have RC := hide (show ∀ W : World, Below w.heap.size w W → RefAt base W R room sp c rs from fun W b => h.later b)
  have h16 := h.few
  have B0 := hide (show Below w.heap.size w (w.alloc (.cells #[] 9)) from (Below.refl _ _).alloc (Nat.le_refl _) _)
  have O0 := hide (show OwnN w.heap.size (w.alloc (.cells #[] 9)) (some ⟨w.heap.size, 0, none⟩) 0 [] from ⟨rfl, .inr ⟨w.heap.size, 0, #[], rfl, Nat.le_refl _, heap_new w _, Nat.le_refl _, by simp [maxLen], rfl, rfl⟩⟩)
  clear h
  obtain ⟨n, hn⟩ : ∃ n, rs.length = n := ⟨_, rfl⟩
  rw [hn] at h16
  have HN := hide hn
  go_enter Try.func40, Try.ntmps40
  go_wp2_with fail
  go_loopw [3, 4] (fun v3 v4 wr => ∃ (j : Nat) (op : Option Addr) (oc : Nat), j ≤ n ∧ v3 = .slice op j oc ∧ v4 = .int .i64 (j : Int) ∧ Hid (OwnN w.heap.size wr op oc ((rs.map (·.1)).take j)) ∧ Hid (Below w.heap.size w wr)) (fun _ v4 _ => n - (intOf v4).toNat)
  case atStart => exact ⟨0, _, 0, by omega, rfl, rfl, O0, B0⟩
  case round =>
    obtain ⟨j, op, oc, hj, rfl, rfl, HO, HB⟩ := hrel
    have c1 := (unhide RC wr (unhide HB)).c1
    rw [hn] at c1
    by_cases hjn : j < n
    · have y1 : (j : Int) < (n : Int) := by omega
      have y0 : (0 : Int) ≤ (j : Int) := by omega
      have hjr : j < rs.length := by omega
      obtain ⟨g, rfl, p0, _⟩ := (unhide RC wr (unhide HB)).own.cells j hjr
      have TK := hide (show (rs.map (·.1)).take (j + 1) = (rs.map (·.1)).take j ++ [rs[j].1] by
        rw [List.take_succ_eq_append_getElem (by simpa using hjr), List.getElem_map])
      have HL := hide (show ((rs.map (·.1)).take j).length = j by rw [List.length_take, List.length_map]; omega)
      generalize rs[j].1 = t at *
      have AZ := hide (show Below wr.heap.size wr (wr.alloc (.cells #[.string (str t)] 9)) from (Below.refl _ _).alloc (Nat.le_refl _) _)
      have OZ := hide ((unhide HO).later (unhide AZ))
      have BZ := hide ((unhide HB).trans ((unhide AZ).mono (unhide HB).size))
      have XZ := hide (heap_new wr (.cells #[.string (str t)] 9))
      clear hn
      go_wp2_with (at_builtin; refine wpList_appendN rfl (.tmp 19) (.tmp 28) rfl w.heap.size op j oc ((rs.map (·.1)).take j) rfl (unhide HL) (by exact unhide OZ) wr.heap.size t rfl (by exact unhide XZ) (by omega) (by exact (unhide BZ).size) ?_; intro sp9 c9 V9 hO9 hG9; refine unhide ?_)
      refine hide ?_
      rw [← unhide TK] at hO9
      have O9 := hide hO9
      have B9 := hide (show Below w.heap.size w V9 from (unhide BZ).grown hG9.grown (unhide BZ).size (fun g' hg' => ((unhide OZ).blk_is g' hg').1))
      clear hO9 hG9
      go_wp2
      exact ⟨⟨j + 1, sp9, c9, by omega, rfl, by go_num, unhide O9, unhide B9⟩, by simp [intOf]; omega⟩
    · have y1 : ¬ (j : Int) < (n : Int) := by omega
      obtain rfl : j = n := by omega
      have hjr : (rs.map (·.1)).take j = rs.map (·.1) := List.take_of_length_le (by rw [List.length_map]; omega)
      rw [hjr] at HO
      clear hjr hn
      go_wp2
      go_ret
      exact ⟨op, j, oc, rfl, unhide HN, unhide HO, unhide HB⟩
end
end Go.Proofs.Ytghdiemihceaoaa
