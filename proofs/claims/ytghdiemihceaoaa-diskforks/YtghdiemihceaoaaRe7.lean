/- The document's disk: Cut, Rename. -/
import Derived.Test.YtghdiemihceaoaaRe6
namespace Go.Proofs.Ytghdiemihceaoaa
open Go.ChangeShapes Go.WideShapes Go.ChangeAt Go.RowKit Go.Maps

theorem usL_snoc (cs : List Chg) (c : Chg) : usL (cs ++ [c]) = usL cs ++ unitsOf c := by simp [usL]
theorem us_le : ∀ (cs : List Chg), (∀ c ∈ cs, smallC c) → (usL cs).length ≤ cs.length * 262144
  | [], _ => by simp [usL]
  | c :: cs, h => by
    have ih := us_le cs (fun x hx => h x (List.mem_cons_of_mem _ hx))
    have hc := h c List.mem_cons_self
    have hl : (usL (c :: cs)).length = unitsC c + (usL cs).length := by simp [usL, unitsOf_length]
    have h1 : unitsC c ≤ 262144 := by
      unfold unitsC
      cases hb : c.1 with
      | true => simp
      | false => simp only [Bool.false_eq_true, if_false]; have := (hc.1 hb).1; omega
    rw [hl, List.length_cons]
    omega
theorem SOk.cutS {s : Sp} (h : SOk s) (k : Nat) (hk : k ≤ s.now.length) : SOk ⟨s.la, s.y, s.cs ++ [(true, k, [])]⟩ := by
  have h8 : s.now.length ≤ 262144 := by rw [← h.now]; exact h.len _
  refine ⟨fitsC_snoc _ _ _ h.fit hk (by show s.now.length + 0 ≤ _; omega), ?_, h.y8, h.yb, ?_⟩
  · intro c hc
    rcases List.mem_append.1 hc with hc | hc
    · exact h.small c hc
    · obtain rfl : c = (true, k, []) := by simpa using hc
      exact ⟨fun e => (by cases e), fun _ => rfl⟩
  · intro c hc
    rcases List.mem_append.1 hc with hc | hc
    · exact h.cb c hc
    · obtain rfl : c = (true, k, []) := by simpa using hc
      simp
section
variable {base R room : Nat} {w w' : World} {sp : Option Addr} {c : Nat} {rs rs' : List Rf}
/-- A file with other changes comes into the list: what put then does. -/
theorem RefAt.putS (h : RefAt base w R room sp c rs) (hbs : base ≤ w.heap.size) (nm : Nm) (v : RV) (W : World) (hb : Below w.heap.size w W) (hat : RfAt base W (nm, v)) (hfew : (putF nm v rs).length ≤ 16) (hfoot : ∀ g, Rf.foot (nm, v) g → footR sp rs g ∨ w.heap.size ≤ g) :
    Calls Try.prog 59 #[.slice sp rs.length c, .agg #[.string (str nm), .bool v.s.la, .slice v.yp v.s.y.length v.yc, .slice v.up v.s.us.length v.uc]] W fun e w' => ∃ sp' n' c', e = .returned (.slice sp' n' c') ∧ RDone base R room w sp rs (putF nm v rs) (w'.setCell ⟨R, 1, none⟩ (.slice sp' n' c')) ∧ Below w.heap.size w w' := by
  have := rput_calls base W sp c rs (nm, v) (h.later hb).own h.rise h.few hat (Nat.le_trans hbs hb.size)
  unfold rfVal at this
  refine this.mono ?_
  rintro e W' ⟨sp', n', c', rfl, hn', ho', hg', hb'⟩
  have hbb := hb.trans (hb'.mono hb.size)
  exact ⟨sp', n', c', rfl, h.stored hbb ho' hn' (h.rise.put _ _) hfew (foot_put sp' _ _ h.rise (fun g hg => Nat.le_trans hb.size (hg' g hg)) hfoot), hbb⟩
set_option maxRecDepth 20000 in
set_option maxHeartbeats 40000000 in
theorem rcut_calls (h : RefAt base w R room sp c rs) (hbs : base ≤ w.heap.size) (s : ByteArray) (z : Int) (hcs : ∀ x ∈ rs, x.2.s.cs.length ≤ 300) :
    Calls Try.prog 36 #[.pointer (some ⟨R, 0, none⟩), .string s, .int .i64 z] w (REnd base R room w sp rs (dCut s.data.toList z (rss rs))) := by
  have FC := hide (rfind_calls h s)
  have EN := hide (show s.data.toList ∉ rs.map (·.1) → REnd base R room w sp rs (dCut s.data.toList z (rss rs)) (.returned (.int .i64 8)) w from fun hn => by
    have hg := getS_none.2 hn
    exact REnd.stay h (Below.refl _ _) (by simp [dCut, rss_get, hg]) (by simp [dCut, rss_get, hg]))
  have VC := hide (fun W (hb : Below w.heap.size w W) => h.later hb)
  have H := hide h
  have HS := hide hbs
  have HCS := hide hcs
  clear h hbs hcs
  go_enter Try.func36, Try.ntmps36
  go_wp2_with fail
  refine (unhide FC).mono ?_
  rintro e w2 ⟨rfl, hF⟩
  rcases hF with ⟨i, hi, he, rfl⟩ | ⟨hno, rfl⟩
  · have hi0 : ¬ ((i : Int) < 0) := by omega
    have hi1 : (i : Int) < (rs.length : Int) := by omega
    have hi2 : (0 : Int) ≤ (i : Int) := by omega
    obtain ⟨g, rfl, p0, p1, p2, p3⟩ := (unhide H).own.cells i hi
    have c1 := (unhide H).c1
    have DAT := hide (fun W (hb : Below w2.heap.size w2 W) => (unhide VC W hb).own.dat _ (List.getElem_mem hi))
    have GI := hide (show getS s.data.toList rs = some rs[i].2 by rw [← he]; exact (unhide H).getI i hi)
    have ZM := hide (List.getElem_mem hi)
    have KM := hide (show s.data.toList ∈ rs.map (·.1) by rw [← he]; exact List.mem_map.2 ⟨_, List.getElem_mem hi, rfl⟩)
    have HE := hide he
    clear he
    generalize rs[i] = x at *
    obtain ⟨nm, t, yp, yc, up, uc⟩ := x
    have hnm : nm = s.data.toList := unhide HE
    subst hnm
    simp only [str_of'] at p0
    simp only at p1 p2 p3 DAT GI
    have OK := hide (unhide DAT w2 (Below.refl _ _)).ok
    have b1 : Below w2.heap.size w2 (w2.alloc (rfObj (s.data.toList, ⟨t, yp, yc, up, uc⟩))) := (Below.refl _ _).alloc (Nat.le_refl _) _
    have hs1 : (w2.alloc (rfObj (s.data.toList, ⟨t, yp, yc, up, uc⟩))).heap.size = w2.heap.size + 1 := by simp
    have X1 := hide (heap_new w2 (rfObj (s.data.toList, ⟨t, yp, yc, up, uc⟩)))
    have NC := hide (now_calls base _ (s.data.toList, ⟨t, yp, yc, up, uc⟩) (unhide DAT _ b1))
    have hdz : z < 0 ∨ z > t.now.length → dCut s.data.toList z (rss rs) = (2, rss rs) := fun hz => by
      simp only [dCut, rss_get, unhide GI, Option.map_some]; rw [if_pos hz]
    have E2 := hide (show (z < 0 ∨ z > t.now.length) → ∀ W, Below w2.heap.size w2 W → REnd base R room w2 (some ⟨g, 0, none⟩) rs (dCut s.data.toList z (rss rs)) (.returned (.int .i64 2)) W from fun hz W hb => REnd.stay (unhide H) hb (by rw [hdz hz]; rfl) (by rw [hdz hz]))
    have YY := hide (show ∀ (k : Nat), z = (k : Int) → k ≤ t.now.length → ∀ W up' uc', Below w2.heap.size w2 W → OwnU (w2.heap.size + 1) W up' uc' (t.us ++ [(true, k, 0)]) → Calls Try.prog 59 #[.slice (some ⟨g, 0, none⟩) rs.length c, .agg #[.string s, .bool t.la, .slice yp t.y.length yc, .slice up' (t.us ++ [(true, k, 0)]).length uc']] W fun e w' => ∃ sp' n' c', e = .returned (.slice sp' n' c') ∧ REnd base R room w2 (some ⟨g, 0, none⟩) rs (dCut s.data.toList z (rss rs)) (.returned (.int .i64 0)) (w'.setCell ⟨R, 1, none⟩ (.slice sp' n' c')) ∧ Below w2.heap.size w2 w' from fun k hzk hk W up' uc' hb hU => by
      have husn : (⟨t.la, t.y, t.cs ++ [(true, k, [])]⟩ : Sp).us = t.us ++ [(true, k, 0)] := usL_snoc _ _
      have hsok := (unhide OK).cutS k hk
      have hle : (t.us ++ [(true, k, 0)]).length ≤ 100000000 := by
        rw [← husn]
        have h1 := us_le _ hsok.small
        have h2 := unhide HCS _ (unhide ZM)
        simp only [List.length_append, List.length_cons, List.length_nil] at h1 h2
        show (usL (t.cs ++ [(true, k, [])])).length ≤ _
        omega
      have := (unhide H).putS (unhide HS) s.data.toList ⟨⟨t.la, t.y, t.cs ++ [(true, k, [])]⟩, yp, yc, up', uc'⟩ W hb ⟨hsok, (unhide DAT W hb).sure, by rw [husn]; exact own_mono hU (by have := unhide HS; omega), by rw [husn]; exact hle⟩ (by rw [putF_old_len (unhide H).rise (unhide KM)]; exact (unhide H).few) (by
        rintro g' (hg | hg)
        · exact .inl (.inr ⟨_, unhide ZM, .inl hg⟩)
        · exact .inr (by have := (own_is hU g' hg).1; omega))
      rw [husn, str_of'] at this
      refine this.mono ?_
      rintro e W' ⟨sp', n', c', rfl, hD, hbb⟩
      refine ⟨sp', n', c', rfl, ⟨?_, _, ?_, hD⟩, hbb⟩
      · simp only [dCut, rss_get, unhide GI, Option.map_some]
        rw [if_neg (by omega)]; rfl
      · rw [rss_put]
        simp only [dCut, rss_get, unhide GI, Option.map_some]
        rw [if_neg (by omega), hzk, Int.toNat_natCast])
    have RC := hide (fun W (hb : Below w2.heap.size w2 W) => show W.cell? ⟨R, 1, none⟩ = some (.slice (some ⟨g, 0, none⟩) rs.length c) ∧ W.frozen? ⟨R, 1, none⟩ = false from ⟨(unhide VC W hb).c1, (unhide VC W hb).z1⟩)
    have B1 := hide b1
    have HX1 := hide (show ∀ W, Below (w2.heap.size + 1) (w2.alloc (rfObj (s.data.toList, ⟨t, yp, yc, up, uc⟩))) W → W.heap[w2.heap.size]? = some (rfObj (s.data.toList, ⟨t, yp, yc, up, uc⟩)) from fun W b => (b.block w2.heap.size (by omega)).trans (unhide X1))
    have UD := hide (show ∀ W, Below w2.heap.size w2 W → OwnU base W up uc t.us from fun W b => (unhide DAT W b).units)
    have U8 := hide (unhide DAT w2 (Below.refl _ _)).few
    clear hdz b1 X1
    unfold rfVal at NC
    unfold rfObj at NC B1 HX1 hs1
    simp only [str_of'] at NC B1 HX1 hs1
    clear HE hi
    generalize rs.length = n at c1 hi1 RC YY
    by_cases hz0 : z < 0
    · have E3 := hide (unhide E2 (.inl hz0) _ (unhide B1))
      go_wp2
      go_ret
      exact unhide E3
    · obtain ⟨k, rfl⟩ : ∃ k : Nat, z = (k : Int) := ⟨z.toNat, by omega⟩
      go_wp2_with fail
      generalize w2.alloc (.cells #[.string s, .bool t.la, .slice yp t.y.length yc, .slice up t.us.length uc] 80) = V1 at *
      refine (unhide NC).mono ?_
      rintro e V2 ⟨sp2, n2, c2, rfl, hn2, h8, hX2, b2⟩
      rw [hs1] at b2
      have B2 := hide b2
      have BV2 := hide ((unhide B1).trans (b2.mono (by omega)))
      have HN2 := hide hn2
      clear hX2 b2 hn2
      by_cases hz1 : n2 < k
      · have hz2 : (n2 : Int) < (k : Int) := by omega
        have E3 := hide (unhide E2 (.inr (by rw [unhide HN2]; omega)) _ (unhide BV2))
        go_wp2
        go_ret
        exact unhide E3
      · have hz2 : ¬ (n2 : Int) < (k : Int) := by omega
        have Y2 := hide (unhide YY k rfl (by rw [unhide HN2]; omega))
        have A3 := hide (show Below V2.heap.size V2 (V2.alloc (.cells #[] 90)) from (Below.refl _ _).alloc (Nat.le_refl _) _)
        have hV2 : w2.heap.size + 1 ≤ V2.heap.size := by have := (unhide B2).size; omega
        have O3 := hide (OwnU.empty V2 (w2.heap.size + 1) hV2)
        have B3 := hide ((unhide B2).trans ((unhide A3).mono hV2))
        have BV3 := hide ((unhide B1).trans ((unhide B3).mono (by omega)))
        have u3 : (V2.alloc (.cells #[] 90)).cell? ⟨w2.heap.size, 3, none⟩ = some (.slice up t.us.length uc) := fcell (unhide HX1 _ (unhide B3)) 3 _ rfl
        have S3 := hide (unhide UD _ (unhide BV3))
        have u8 : t.us.length ≤ 100000000 := unhide U8
        generalize hnu : t.us.length = nu at u3 u8
        have HNU := hide hnu
        clear hnu
        go_wp2_with (at_builtin; refine wpList_appendU rfl (.tmp 33) (.tmp 35) rfl (w2.heap.size + 1) base (some ⟨V2.heap.size, 0, none⟩) up 0 nu 0 uc [] t.us rfl rfl rfl (unhide HNU) (by exact unhide O3) (by exact unhide S3) (by omega) (by exact Nat.le_trans hV2 (unhide A3).size) ?_; intro sp4 n4 c4 V4 hn4 hO4 hG4; refine unhide ?_)
        refine hide ?_
        rw [List.nil_append] at hn4 hO4
        have B4 := hide (show Below (w2.heap.size + 1) V1 V4 from (unhide B3).grown hG4.grown (by have := (unhide B3).size; omega) (fun g' hg' => by simp [blk] at hg'; omega))
        have O4 := hide hO4
        have hn4' : t.us.length = n4 := unhide hn4
        have hV4 : w2.heap.size + 1 ≤ V4.heap.size := by have := (unhide B4).size; omega
        have A5 := hide (show Below V4.heap.size V4 (V4.alloc (.cells #[.bool true, .int .i64 (k : Int), .int .u8 0] 90)) from (Below.refl _ _).alloc (Nat.le_refl _) _)
        have O5 := hide (own_same (unhide O4) (fun g hg => (unhide A5).block g (own_is (unhide O4) g hg).2.1))
        have S5 := hide (OwnU.one (true, k, 0) (heap_new V4 (.cells #[.bool true, .int .i64 (k : Int), .int .u8 0] 90)))
        have B5 := hide ((unhide B4).trans ((unhide A5).mono hV4))
        have HN4 := hide hn4'
        have h48 : n4 ≤ 100000000 := by rw [← hn4', unhide HNU]; exact u8
        have YB := hide (fun g (hg : blk sp4 = some g) => (own_is (unhide O4) g hg).1)
        clear hO4 hG4 hn4 hn4' u3
        go_wp2_with (at_builtin; refine wpList_appendU rfl (.tmp 37) (.tmp 40) rfl (w2.heap.size + 1) 0 sp4 (some ⟨V4.heap.size, 0, none⟩) n4 1 c4 1 t.us [(true, k, 0)] rfl rfl (unhide HN4) rfl (by exact unhide O5) (by exact unhide S5) (by omega) (by exact Nat.le_trans hV4 (unhide A5).size) ?_; intro sp6 n6 c6 V6 hn6 hO6 hG6; refine unhide ?_)
        refine hide ?_
        have B6 := hide (show Below (w2.heap.size + 1) V1 V6 from (unhide B5).grown hG6.grown (by have := (unhide B5).size; omega) (fun g' hg' => unhide YB g' hg'))
        have hX6 := unhide HX1 V6 (unhide B6)
        have w3 := fcell hX6 3 _ rfl
        have f3 := ffree hX6 3
        have BV6 := hide ((unhide B1).trans ((unhide B6).mono (by omega)))
        have hX7 : (V6.setCell ⟨w2.heap.size, 3, none⟩ (.slice sp6 n6 c6)).heap[w2.heap.size]? = some (.cells #[.string s, .bool t.la, .slice yp t.y.length yc, .slice sp6 n6 c6] 80 (0, 0)) := by
          rw [heap_setCell_same V6 w2.heap.size 3 _ 80 _ hX6]; rfl
        have BV7 := hide (show Below w2.heap.size w2 (V6.setCell ⟨w2.heap.size, 3, none⟩ (.slice sp6 n6 c6)) from (unhide BV6).grown (grown_set V6 w2.heap.size 3 _) (unhide BV6).size (fun g hg => by have := Option.some.inj hg; omega))
        have O7 := hide (own_same (w' := V6.setCell ⟨w2.heap.size, 3, none⟩ (.slice sp6 n6 c6)) hO6 (fun g hg => heap_setCell_other _ ⟨w2.heap.size, 3, none⟩ g _ (fun e => by
          have e2 : g = w2.heap.size := e
          have := (own_is hO6 g hg).1
          omega)))
        have x0 := fcell hX7 0 _ rfl
        have x1 := fcell hX7 1 _ rfl
        have x2 := fcell hX7 2 _ rfl
        have x3 := fcell hX7 3 _ rfl
        obtain ⟨r1, r2⟩ := unhide RC _ (unhide BV7)
        have HN6 := hide (show (t.us ++ [(true, k, 0)]).length = n6 from unhide hn6)
        clear hX6 hX7 hO6 hG6 hn6
        go_wp2_with fail
        generalize V6.setCell ⟨w2.heap.size, 3, none⟩ (.slice sp6 n6 c6) = V7 at *
        have UX := hide (show ∀ W, Below V7.heap.size V7 W → Calls Try.prog 59 #[.slice (some ⟨g, 0, none⟩) n c, .agg #[.string s, .bool t.la, .slice yp t.y.length yc, .slice sp6 n6 c6]] W _ from fun W hb => by
          have hbb := (unhide BV7).trans (hb.mono (unhide BV7).size)
          have := unhide Y2 W sp6 c6 hbb (own_same (unhide O7) (fun g hg => hb.block g (own_is (unhide O7) g hg).2.1))
          rw [unhide HN6] at this
          exact this)
        go_region_law (go_simp; go_at_call 59; refine (unhide UX V7.drew ((Below.refl _ _).drew)).mono ?_; rintro e W' ⟨sp', n', c', rfl, hE, b3⟩; have E3 := hide hE; obtain ⟨v1, z1⟩ := unhide RC W' b3; clear hE b3)
        all_goals
          go_wp2
          go_ret
          exact unhide E3
  · have E3 := hide (unhide EN hno)
    clear hno
    go_wp2
    go_ret
    exact unhide E3
end
end Go.Proofs.Ytghdiemihceaoaa
