/- The document's disk: Rename. -/
import Derived.Test.YtagncghpfdjkmaaGreatDoorB33
namespace Go.Proofs.YtagncghpfdjkmaaGreatDoor
open Go.ChangeShapes Go.WideShapes Go.ChangeAt Go.RowKit Go.Maps

theorem putF_delF {α : Type} {k : Nm} {v : α} : ∀ {fs : List (Nm × α)}, Rises fs → (k, v) ∈ fs → putF k v (delF k fs) = fs
  | [], _, h => by simp at h
  | x :: r, hr, hm => by
    have h1 := List.pairwise_cons.1 hr
    rcases List.mem_cons.1 hm with rfl | hm
    · have hd : delF k ((k, v) :: r) = r := by
        unfold delF
        rw [List.filter_cons, if_neg (by simp), List.filter_eq_self]
        intro y hy
        have : y.1 ≠ k := fun e => nm_irrefl k (by have := h1.1 y hy; rw [e] at this; exact this)
        simpa using this
      rw [hd]
      cases r with
      | nil => rfl
      | cons y r =>
        have hy : k < y.1 := h1.1 y List.mem_cons_self
        have e1 : ¬ y.1 < k := fun e => nm_irrefl _ (nm_trans e hy)
        have e2 : ¬ y.1 = k := fun e => nm_irrefl k (by rw [e] at hy; exact hy)
        simp [putF, e1, e2]
    · have hx : x.1 < k := h1.1 (k, v) hm
      have hne : x.1 ≠ k := fun e => nm_irrefl _ (e ▸ hx)
      have hd : delF k (x :: r) = x :: delF k r := by
        unfold delF
        rw [List.filter_cons, if_pos (by simpa using hne)]
      have e : putF k v (x :: delF k r) = if x.1 < k then x :: putF k v (delF k r) else if x.1 = k then (k, v) :: delF k r else (k, v) :: x :: delF k r := rfl
      rw [hd, e, if_pos hx, putF_delF h1.2 hm]
section
variable {base R room : Nat} {w w' : World} {sp : Option Addr} {c : Nat} {rs rs' : List Rf}
set_option maxRecDepth 20000 in
set_option maxHeartbeats 40000000 in
theorem rrename_calls (h : RefAt base w R room sp c rs) (hbs : base ≤ w.heap.size) (s b : ByteArray) (hb : b.size ≤ maxLen) :
    Calls Tryz.prog 74 #[.pointer (some ⟨R, 0, none⟩), .string s, .string b] w (REnd base R room w sp rs (dRename s.data.toList b.data.toList (rss rs))) := by
  have FC := hide (rfind_calls h s)
  have EN := hide (show s.data.toList ∉ rs.map (·.1) → REnd base R room w sp rs (dRename s.data.toList b.data.toList (rss rs)) (.returned (.int .i64 8)) w from fun hn => by
    have hg := getS_none.2 hn
    exact REnd.stay h (Below.refl _ _) (by simp [dRename, rss_get, hg]) (by simp [dRename, rss_get, hg]))
  have VC := hide (fun W (hb : Below w.heap.size w W) => h.later hb)
  have H := hide h
  have HS := hide hbs
  have NB := hide (fun (W : World) => named_calls b W hb)
  clear h hbs hb
  go_enter Tryz.func74, Tryz.ntmps74
  go_wp2_with fail
  refine (unhide FC).mono ?_
  rintro e w2 ⟨rfl, hF⟩
  rcases hF with ⟨i, hi, he, rfl⟩ | ⟨hno, rfl⟩
  · have hi0 : ¬ ((i : Int) < 0) := by omega
    have hi1 : (i : Int) < (rs.length : Int) := by omega
    have hi2 : (0 : Int) ≤ (i : Int) := by omega
    obtain ⟨g, rfl, p0, p1, p2, p3⟩ := (unhide H).own.cells i hi
    have c1 := (unhide H).c1
    have DAT := hide (fun W (hb : Below w2.heap.size w2 W) => (unhide VC W hb).own.dat _ (List.getElem_mem hi))
    have GI := hide (show getS s.data.toList rs = some rs[i].2 by rw [← he]; exact (unhide H).getI i hi)
    have ZM := hide (List.getElem_mem hi)
    have HE := hide he
    clear he
    generalize rs[i] = x at *
    obtain ⟨nm, t, yp, yc, up, uc⟩ := x
    have hnm : nm = s.data.toList := unhide HE
    subst hnm
    simp only [str_of'] at p0
    simp only at p1 p2 p3 DAT GI
    have RC := hide (fun W (hb : Below w2.heap.size w2 W) => show W.cell? ⟨R, 1, none⟩ = some (.slice (some ⟨g, 0, none⟩) rs.length c) ∧ W.frozen? ⟨R, 1, none⟩ = false from ⟨(unhide VC W hb).c1, (unhide VC W hb).z1⟩)
    have UX0 := hide (show nameL b.data.toList = true → ∀ W, Below w2.heap.size w2 W → Calls Tryz.prog 111 #[.slice (some ⟨g, 0, none⟩) rs.length c, .string s] W fun e W1 => ∃ sp1 n1 c1, e = .returned (.slice sp1 n1 c1) ∧ Below w2.heap.size w2 W1 ∧ Below W.heap.size W W1 ∧ Calls Tryz.prog 86 #[.slice sp1 n1 c1, .agg #[.string b, .bool t.la, .slice yp t.y.length yc, .slice up t.us.length uc]] W1 fun e w' => ∃ sp' n' c', e = .returned (.slice sp' n' c') ∧ REnd base R room w2 (some ⟨g, 0, none⟩) rs (dRename s.data.toList b.data.toList (rss rs)) (.returned (.int .i64 0)) (w'.setCell ⟨R, 1, none⟩ (.slice sp' n' c')) ∧ Below w2.heap.size w2 w' from fun hnl W hbW => by
      refine (rwithout_calls base W (some ⟨g, 0, none⟩) c rs s (unhide VC W hbW).own (unhide H).few (Nat.le_trans (unhide HS) hbW.size)).mono ?_
      rintro e W1 ⟨sp1, n1, c1, rfl, hn1, ho1, hg1, hb1⟩
      subst hn1
      have hb11 := hbW.trans (hb1.mono hbW.size)
      refine ⟨sp1, _, c1, rfl, hb11, hb1, ?_⟩
      have hd := delF_length (k := s.data.toList) (unhide H).rise
      rw [if_pos (List.mem_map.2 ⟨_, unhide ZM, rfl⟩)] at hd
      have h16 := (unhide H).few
      have := rput_calls base W1 sp1 c1 (delF s.data.toList rs) (b.data.toList, ⟨t, yp, yc, up, uc⟩) ho1 ((unhide H).rise.del _) (by omega) (by
        have hq := unhide DAT W1 hb11
        exact ⟨hq.ok, hq.sure, hq.units, hq.few⟩) (Nat.le_trans (unhide HS) hb11.size)
      unfold rfVal at this
      simp only [str_of'] at this
      refine this.mono ?_
      rintro e W' ⟨sp', n', c', rfl, hn', ho', hg', hb'⟩
      have hbb := hb11.trans (hb'.mono hb11.size)
      refine ⟨sp', n', c', rfl, ⟨by simp [dRename, rss_get, unhide GI, hnl], _, ?_, (unhide H).stored hbb ho' hn' (((unhide H).rise.del _).put _ _) (by rw [putF_length ((unhide H).rise.del _)]; split <;> omega) ?_⟩, hbb⟩
      · rw [rss_put, rss_del]
        simp [dRename, rss_get, unhide GI, hnl]
      · rintro g' (hg | ⟨x, hx, hg⟩)
        · exact .inr (Nat.le_trans hb11.size (hg' g' hg))
        · rcases (mem_putF ((unhide H).rise.del _) x).1 hx with rfl | ⟨hx, _⟩
          · exact .inl (.inr ⟨_, unhide ZM, hg⟩)
          · exact .inl (.inr ⟨x, ((mem_delF x).1 hx).1, hg⟩))
    have E14 := hide (show nameL b.data.toList = false → REnd base R room w2 (some ⟨g, 0, none⟩) rs (dRename s.data.toList b.data.toList (rss rs)) (.returned (.int .i64 14)) w2 from fun hnl => REnd.stay (unhide H) (Below.refl _ _) (by simp [dRename, rss_get, unhide GI, hnl]) (by simp [dRename, rss_get, unhide GI, hnl]))
    have E0 := hide (show nameL b.data.toList = true → s.data.toList = b.data.toList → REnd base R room w2 (some ⟨g, 0, none⟩) rs (dRename s.data.toList b.data.toList (rss rs)) (.returned (.int .i64 0)) w2 from fun hnl hsb => by
      have hr : Rises (rss rs) := (unhide H).rise.map (fun v : RV => v.s)
      have hm : (s.data.toList, t) ∈ rss rs := List.mem_map.2 ⟨_, unhide ZM, rfl⟩
      refine REnd.stay (unhide H) (Below.refl _ _) (by simp [dRename, rss_get, unhide GI, hnl]) ?_
      rw [← hsb] at hnl ⊢
      simp only [dRename, rss_get, unhide GI, Option.map_some, hnl, if_true]
      exact putF_delF hr hm)
    have b1 : Below w2.heap.size w2 (w2.alloc (.cells #[.string b, .bool t.la, .slice yp t.y.length yc, .slice up t.us.length uc] 120)) := (Below.refl _ _).alloc (Nat.le_refl _) _
    have B1 := hide b1
    have X1 := heap_new w2 (.cells #[.string b, .bool t.la, .slice yp t.y.length yc, .slice up t.us.length uc] 120)
    have x0 := fcell X1 0 _ rfl
    have x1 := fcell X1 1 _ rfl
    have x2 := fcell X1 2 _ rfl
    have x3 := fcell X1 3 _ rfl
    obtain ⟨r1, r2⟩ := unhide RC _ b1
    have XX := hide (show ∀ W, Below (w2.alloc (.cells #[.string b, .bool t.la, .slice yp t.y.length yc, .slice up t.us.length uc] 120)).heap.size (w2.alloc (.cells #[.string b, .bool t.la, .slice yp t.y.length yc, .slice up t.us.length uc] 120)) W → W.heap[w2.heap.size]? = some (.cells #[.string b, .bool t.la, .slice yp t.y.length yc, .slice up t.us.length uc] 120 (0, 0)) from fun W hb => (hb.block w2.heap.size (by simp)).trans X1)
    clear b1 X1 HE hi
    generalize rs.length = n at c1 hi1 RC UX0 r1
    cases hnl : nameL b.data.toList with
    | false =>
      have E3 := hide (unhide E14 hnl)
      go_wp2_with (go_at_call 83; refine (unhide NB _).mono ?_; rintro e w' ⟨rfl, rfl⟩)
      go_ret
      exact unhide E3
    | true =>
      by_cases hsb : s.data.toList = b.data.toList
      · have E3 := hide (unhide E0 hnl hsb)
        have hq : (s.toList == b.toList) = true := by
          rw [ByteArray.toList_eq, ByteArray.toList_eq, hsb]; simp
        clear hsb
        go_wp2_with (go_at_call 83; refine (unhide NB _).mono ?_; rintro e w' ⟨rfl, rfl⟩)
        go_ret
        exact unhide E3
      · have hq : (s.toList == b.toList) = false := by
          rw [ByteArray.toList_eq, ByteArray.toList_eq]; simpa using hsb
        have UX := hide (unhide UX0 hnl)
        clear hsb UX0 E14 E0
        go_wp2_with (go_at_call 83; refine (unhide NB _).mono ?_; rintro e w' ⟨rfl, rfl⟩)
        generalize w'.alloc (.cells #[.string b, .bool t.la, .slice yp t.y.length yc, .slice up t.us.length uc] 120) = V7 at *
        go_region_law (first
          | (go_simp
             go_at_call 111
             refine (unhide UX V7.drew (unhide B1).drew).mono ?_
             rintro e W1 ⟨sp1, n1, k1, rfl, hb1, hb2, hP⟩
             have UP := hide hP
             obtain ⟨s1, s2⟩ := unhide RC W1 hb1
             have Y1 := unhide XX W1 ⟨hb2.os, hb2.tape, hb2.output, hb2.size, hb2.block⟩
             have y0 := fcell Y1 0 _ rfl
             have y1 := fcell Y1 1 _ rfl
             have y2 := fcell Y1 2 _ rfl
             have y3 := fcell Y1 3 _ rfl
             clear hP hb1 hb2 Y1)
          | (go_simp
             go_at_call 86
             refine (unhide UP).mono ?_
             rintro e W' ⟨sp', n', c', rfl, hE, b3⟩
             have E3 := hide hE
             obtain ⟨v1, z1⟩ := unhide RC W' b3
             clear hE b3))
        all_goals
          go_wp2
          go_ret
          exact unhide E3
  · have E3 := hide (unhide EN hno)
    clear hno
    go_wp2
    go_ret
    exact unhide E3
end
end Go.Proofs.YtagncghpfdjkmaaGreatDoor
