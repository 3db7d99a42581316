/- Snapshots, plainly: disks that hold whole snapshots; what Save and Load make of them. -/
import Derived.Test.YtagncghpfdjkmaaGreatDoorB25
import Derived.Test.YtagncghpfdjkmaaGreatDoorB26
section
namespace Go.Proofs.YtagncghpfdjkmaaGreatDoor
open Go.ChangeShapes Go.WideShapes Go.ChangeAt Go.RowKit
set_option linter.unusedVariables false

/-- A snapshot's file, whole and synced. -/
def snF (s : Sn) : Nm × Sp := (snNm s.i.toNat, ⟨true, snB s, []⟩)
/-- All files but snap.tmp are whole snapshots. -/
structure Cl (ss : Ds) : Prop where
  rise : Rises ss
  each : ∀ x ∈ ss, x.1 ≠ spareS → ∃ s : Sn, snE s = 0 ∧ x = snF s
theorem dRemove_some {k : Nm} {ss : Ds} (h : k ∈ ss.map (·.1)) : dRemove k ss = (0, delF k ss) := by
  unfold dRemove
  cases hg : getS k ss with
  | none => exact absurd h (getS_none.1 hg)
  | some _ => rfl
theorem dRemove_2 (k : Nm) (ss : Ds) : (dRemove k ss).2 = delF k ss := by
  unfold dRemove
  cases hg : getS k ss with
  | none => exact (delF_none (getS_none.1 hg)).symm
  | some _ => rfl
theorem mem_delF_names {k j : Nm} {ss : Ds} (h : j ∈ ss.map (·.1)) (hne : j ≠ k) : j ∈ (delF k ss).map (·.1) := by
  obtain ⟨x, hx, rfl⟩ := List.mem_map.1 h
  exact List.mem_map.2 ⟨x, (mem_delF x).2 ⟨hx, hne⟩, rfl⟩
/-- What the files of smaller indices leave. -/
theorem remL_is (k : Nat) : ∀ (fs : List Fl) (ss : Ds), (fs.map (·.1)).Nodup → (∀ f ∈ fs, f.1 ∈ ss.map (·.1)) → remL k fs ss = (0, ss.filter (fun x => fs.all (fun f => decide (f.2 < k → x.1 ≠ f.1))))
  | [], ss, _, _ => by
    rw [remL]
    exact congrArg (fun z => (0, z)) (List.filter_eq_self.2 (fun _ _ => rfl)).symm
  | f :: r, ss, hn, hm => by
    rw [List.map_cons, List.nodup_cons] at hn
    unfold remL
    by_cases hk : k ≤ f.2
    · rw [if_pos hk, remL_is k r ss hn.2 (fun g hg => hm g (List.mem_cons_of_mem _ hg))]
      congr 1
      apply List.filter_congr
      intro x _
      rw [List.all_cons, show decide (f.2 < k → x.1 ≠ f.1) = true from decide_eq_true (fun h => by omega), Bool.true_and]
    · rw [if_neg hk, dRemove_some (hm f List.mem_cons_self)]
      dsimp only
      rw [if_neg (by decide), remL_is k r _ hn.2 (fun g hg => mem_delF_names (hm g (List.mem_cons_of_mem _ hg)) (fun e => hn.1 (List.mem_map.2 ⟨g, hg, e⟩)))]
      congr 1
      unfold delF
      rw [List.filter_filter]
      apply List.filter_congr
      intro x _
      rw [List.all_cons, Bool.and_comm]
      congr 1
      have : f.2 < k := by omega
      simp [this]
theorem filS_in {l : List Nm} {s : Nm} (hs : s ∈ l) (h0 : 0 < numS s) : (s, numS s) ∈ filS l := by
  unfold filS
  exact List.mem_filterMap.2 ⟨s, hs, by rw [if_pos h0]⟩
theorem filS_sub : ∀ l : List Nm, ((filS l).map (·.1)).Sublist l
  | [] => .slnil
  | s :: r => by
    unfold filS
    by_cases h : 0 < numS s
    · rw [List.filterMap_cons_some (by rw [if_pos h])]
      exact (filS_sub r).cons_cons s
    · rw [List.filterMap_cons_none (by rw [if_neg h])]
      exact (filS_sub r).cons s
theorem sor_nodup {ss : Ds} (h : Rises ss) : ((sorD (filS (ss.map (·.1)))).map (·.1)).Nodup :=
  (((sorD_perm _).map (·.1)).nodup_iff).2 ((filS_sub _).nodup h.nodup)
theorem sor_mem {l : List Nm} {f : Fl} : f ∈ sorD (filS l) ↔ f ∈ filS l := (sorD_perm _).mem_iff
/-- The elder ones go. -/
def elders (k : Nat) (ss : Ds) : Ds := ss.filter (fun x => !(decide (0 < numS x.1) && decide (numS x.1 < k)))
theorem rem_elders (k : Nat) {ss : Ds} (h : Rises ss) : remL k (sorD (filS (ss.map (·.1)))) ss = (0, elders k ss) := by
  rw [remL_is k _ ss (sor_nodup h) (fun f hf => (filS_mem (sor_mem.1 hf)).1)]
  congr 1
  apply List.filter_congr
  intro x hx
  rw [Bool.eq_iff_iff, List.all_eq_true]
  simp only [decide_eq_true_eq, Bool.not_eq_true', Bool.and_eq_false_imp, decide_eq_false_iff_not]
  constructor
  · intro h1 h0 hk
    exact h1 (x.1, numS x.1) (sor_mem.2 (filS_in (List.mem_map.2 ⟨x, hx, rfl⟩) h0)) hk rfl
  · intro h1 f hf hk e
    obtain ⟨_, h0, hn, hle⟩ := filS_mem (sor_mem.1 hf)
    have : numS x.1 = f.2 := by rw [e, hn]; exact numS_snNm _ h0 hle
    exact h1 (by omega) (by omega)
theorem snF_num {s : Sn} (h : snE s = 0) : numS (snF s).1 = s.i.toNat := by
  have := (snE_may h).1
  exact numS_snNm _ (by omega) (by omega)
theorem snF_spare {s : Sn} (h : snE s = 0) : (snF s).1 ≠ spareS := fun e => by
  have h1 := snF_num h
  rw [e, spare_num] at h1
  have := (snE_may h).1
  omega
theorem snNm_name {k : Nat} (h1 : 1 ≤ k) (h2 : k ≤ 1099511627776) : nameL (snNm k) = true := by
  unfold nameL
  have hl := snNm_len k (by omega)
  have h0 : 1 ≤ (snNm k).length := by unfold snNm; rw [List.length_append]; simp [snapW]; omega
  have ha : (snNm k).all (fun b => stands b.toNat) = true := by
    unfold snNm
    rw [List.all_append, show snapW.all (fun b => stands b.toNat) = true from by decide +kernel, Bool.true_and, List.all_eq_true]
    intro b hb
    have := dec_digits k b hb
    unfold stands
    simp
    omega
  simp [h0, ha]
  omega
theorem snB_len {s : Sn} (h : snE s = 0) : (snB s).length ≤ 16436 := by
  unfold snB
  rw [if_pos h, frameB_length]
  have := snI_len h
  omega
theorem nowSp (y : List Nat) : (⟨true, y, []⟩ : Sp).now = y := rfl
theorem wroteSp (o : List Nat) : (wrote sp0 0 o).now = o := wrote0_now o
theorem spare_name : nameL spareS = true := by decide +kernel
theorem delF_put (k : Nm) (v : Sp) : ∀ (ss : Ds), k ∉ ss.map (·.1) → delF k (putF k v ss) = ss
  | [], _ => by simp [putF, delF]
  | x :: r, h => by
    rw [List.map_cons, List.mem_cons, not_or] at h
    have ih := delF_put k v r h.2
    have hd := delF_none (k := k) (fs := r) h.2
    have hx : decide (x.1 ≠ k) = true := decide_eq_true (fun e => h.1 e.symm)
    unfold putF
    split
    · unfold delF at ih ⊢
      rw [List.filter_cons_of_pos (p := fun x : Nm × Sp => decide (x.1 ≠ k)) hx, ih]
    · split
      · rename_i e
        exact absurd e.symm h.1
      · unfold delF at hd ⊢
        rw [List.filter_cons_of_neg (by simp), List.filter_cons_of_pos (p := fun x : Nm × Sp => decide (x.1 ≠ k)) hx, hd]
theorem putF_putF (k : Nm) (u v : Sp) : ∀ (ss : Ds), putF k v (putF k u ss) = putF k v ss
  | [] => by simp [putF, nm_irrefl]
  | x :: r => by
    have ih := putF_putF k u v r
    by_cases h1 : x.1 < k
    · simp only [putF, if_pos h1, ih]
    · by_cases h2 : x.1 = k
      · simp [putF, h2, nm_irrefl]
      · simp [putF, h1, h2, nm_irrefl]
/-- Save on such a disk. -/
theorem Cl.save {room : Nat} {s : Sn} {ss : Ds} (h : Cl ss) (hs : snE s = 0) (hl : (delF spareS ss).length < 16) (hu : usedS (delF spareS ss) + (snB s).length ≤ room) :
    sSave room s ss = (0, elders s.i.toNat (putF (snNm s.i.toNat) ⟨true, snB s, []⟩ (delF spareS ss))) := by
  have hi := (snE_may hs).1
  have hr := h.rise.del spareS
  have hno : spareS ∉ (delF spareS ss).map (·.1) := fun e => by
    obtain ⟨x, hx, ex⟩ := List.mem_map.1 e
    exact ((mem_delF x).1 hx).2 ex
  have hg := getS_none.2 hno
  have hK : sKeep room s.i.toNat (snB s) (delF spareS ss) = (0, elders s.i.toNat (putF (snNm s.i.toNat) ⟨true, snB s, []⟩ (delF spareS ss))) := by
    rw [sKeep_1 (dWrite_new room spareS spare_name (snB s) _ hg hl (by have := snB_len hs; omega) hu), if_neg (by decide)]
    have hr1 := hr.put spareS (wrote sp0 0 (snB s))
    have hS : dSync spareS (putF spareS (wrote sp0 0 (snB s)) (delF spareS ss)) = (0, putF spareS ⟨true, snB s, []⟩ (delF spareS ss)) := by
      unfold dSync
      rw [getS_put hr, if_pos rfl]
      dsimp only
      rw [wroteSp, putF_putF]
    rw [hS, if_neg (fun q => q rfl)]
    have hR : dRename spareS (snNm s.i.toNat) (putF spareS ⟨true, snB s, []⟩ (delF spareS ss)) = (0, putF (snNm s.i.toNat) ⟨true, snB s, []⟩ (delF spareS ss)) := by
      unfold dRename
      rw [getS_put hr, if_pos rfl]
      dsimp only
      rw [if_pos (snNm_name (by omega) (by omega)), delF_put _ _ _ hno]
    rw [hR, if_neg (fun q => q rfl)]
    exact rem_elders _ (hr.put _ _)
  unfold sSave
  rw [if_neg (by rw [hs]; decide), dRemove_2, hK, if_neg (fun q => q rfl)]
theorem Cl.kept {s : Sn} {ss : Ds} (h : Cl ss) (hs : snE s = 0) (x : Nm × Sp) : x ∈ elders s.i.toNat (putF (snNm s.i.toNat) ⟨true, snB s, []⟩ (delF spareS ss)) ↔ (x = snF s ∨ (x ∈ ss ∧ x.1 ≠ spareS ∧ s.i.toNat < numS x.1)) := by
  unfold elders
  have hn := snF_num hs
  have hi := (snE_may hs).1
  rw [List.mem_filter, mem_putF (h.rise.del _), mem_delF]
  constructor
  · rintro ⟨rfl | ⟨⟨h1, h2⟩, h3⟩, h4⟩
    · exact .inl rfl
    · right
      refine ⟨h1, h2, ?_⟩
      obtain ⟨t, ht, rfl⟩ := h.each x h1 h2
      have hm := snF_num ht
      have hj := (snE_may ht).1
      rw [hm] at h4 ⊢
      simp at h4
      have : s.i.toNat ≠ t.i.toNat := fun e => h3 (by unfold snF; rw [e])
      omega
  · rintro (rfl | ⟨h1, h2, h3⟩)
    · refine ⟨.inl rfl, ?_⟩
      simp [hn]
    · refine ⟨.inr ⟨⟨h1, h2⟩, fun e => ?_⟩, ?_⟩
      · have e' : x.1 = (snF s).1 := e
        rw [e', hn] at h3
        omega
      · simp
        omega
theorem Cl.saved {s : Sn} {ss : Ds} (h : Cl ss) (hs : snE s = 0) : Cl (elders s.i.toNat (putF (snNm s.i.toNat) ⟨true, snB s, []⟩ (delF spareS ss))) := by
  refine ⟨(((h.rise.del _).put _ _).sublist List.filter_sublist), fun x hx hne => ?_⟩
  rcases (h.kept hs x).1 hx with rfl | ⟨h1, h2, _⟩
  · exact ⟨s, hs, rfl⟩
  · exact h.each x h1 h2
theorem Cl.len {s : Sn} {ss : Ds} (h : Cl ss) (hs : snE s = 0) : (elders s.i.toNat (putF (snNm s.i.toNat) ⟨true, snB s, []⟩ (delF spareS ss))).length ≤ ss.length + 1 := by
  have h1 : (elders s.i.toNat (putF (snNm s.i.toNat) ⟨true, snB s, []⟩ (delF spareS ss))).length ≤ (putF (snNm s.i.toNat) ⟨true, snB s, []⟩ (delF spareS ss)).length := List.length_filter_le _ _
  have h2 := putF_length (k := snNm s.i.toNat) (v := (⟨true, snB s, []⟩ : Sp)) (h.rise.del spareS)
  have h3 : (delF spareS ss).length ≤ ss.length := List.length_filter_le _ _
  split at h2 <;> omega
/-- Load tells the one of the greatest index. -/
theorem Cl.load {s : Sn} {ss : Ds} (h : Cl ss) (hs : snE s = 0) (hm : snF s ∈ ss) (hg : ∀ x ∈ ss, x.1 ≠ spareS → numS x.1 ≤ s.i.toNat) : sLoad ss = some s := by
  unfold sLoad
  have hmem : ((snF s).1, s.i.toNat) ∈ sorD (filS (ss.map (·.1))) := by
    rw [sor_mem, ← snF_num hs]
    have := (snE_may hs).1
    exact filS_in (List.mem_map.2 ⟨_, hm, rfl⟩) (by rw [snF_num hs]; omega)
  have hd := sorD_desc (filS (ss.map (·.1)))
  have hel : ∀ f ∈ sorD (filS (ss.map (·.1))), f.1 ∈ ss.map (·.1) ∧ f.1 = snNm f.2 ∧ 0 < f.2 ∧ f.2 ≤ 1099511627776 := fun f hf => by
    obtain ⟨h1, h2, h3, h4⟩ := filS_mem (sor_mem.1 hf)
    exact ⟨h1, h3, h2, h4⟩
  generalize sorD (filS (ss.map (·.1))) = fs at *
  cases fs with
  | nil => cases hmem
  | cons f r =>
    obtain ⟨h1, h2, h3, h4⟩ := hel f List.mem_cons_self
    have hge : s.i.toNat ≤ f.2 := by
      rcases List.mem_cons.1 hmem with e | e
      · rw [← e]; exact Nat.le_refl _
      · exact (List.pairwise_cons.1 hd).1 _ e
    have hle : f.2 ≤ s.i.toNat := by
      obtain ⟨x, hx, ex⟩ := List.mem_map.1 h1
      have e1 : numS x.1 = f.2 := by rw [ex, h2]; exact numS_snNm _ h3 h4
      rw [← e1]
      exact hg x hx (fun e => by rw [e, spare_num] at e1; omega)
    have ef : f.2 = s.i.toNat := by omega
    have e1 : f.1 = (snF s).1 := by rw [h2, ef]; rfl
    have eg : getS f.1 ss = some ⟨true, snB s, []⟩ := by rw [e1]; exact getS_mem h.rise hm
    have el : snL (snB s) = .ok s := by unfold snB; rw [if_pos hs]; exact snL_at hs
    unfold loadL
    rw [if_neg (by unfold readE; rw [eg]; exact fun q => q rfl)]
    have en : nowL f.1 ss = snB s := by unfold nowL; rw [eg]; rfl
    rw [en, el]
    dsimp only
    have := (snE_may hs).1
    rw [if_pos ⟨by rw [e1]; rfl, by rw [ef]; omega⟩]
/-- A crash leaves whole files as they are. -/
theorem crash_whole (ks : List Int) : ∀ (ss : Ds) (i : Nat), (∀ x ∈ ss, ∃ y, x.2 = ⟨true, y, []⟩) → crashS ks i ss = ss
  | [], i, _ => rfl
  | x :: r, i, h => by
    obtain ⟨k, v⟩ := x
    obtain ⟨y, hy⟩ := h (k, v) List.mem_cons_self
    dsimp only at hy
    subst hy
    rw [crashS_first, crash_whole ks r (i + 1) (fun x hx => h x (List.mem_cons_of_mem _ hx))]
end Go.Proofs.YtagncghpfdjkmaaGreatDoor
end
/- SnapNewest, plainly: the greatest index, and who saved it last. -/
section
namespace Go.Proofs.YtagncghpfdjkmaaGreatDoor
open Go.ChangeShapes Go.WideShapes Go.ChangeAt Go.RowKit
set_option linter.unusedVariables false

def nS (k j : Nat) : Sn := ⟨k, 1, [1], [], [j]⟩
def bestUp (l : List Nat) : Nat → Nat
  | 0 => 0
  | i + 1 => max (bestUp l i) (l.getD i 0 + 1)
def lastUp (l : List Nat) (b : Nat) : Nat → Nat
  | 0 => 0
  | i + 1 => if l.getD i 0 + 1 = b then i else lastUp l b i
theorem bestUp_le (l : List Nat) (hl : ∀ x ∈ l, x < 65536) : ∀ i, bestUp l i ≤ 65536
  | 0 => by simp [bestUp]
  | i + 1 => by
    have h1 := bestUp_le l hl i
    have h2 : l.getD i 0 < 65536 := by
      rw [List.getD_eq_getElem?_getD]
      by_cases h : i < l.length
      · rw [List.getElem?_eq_getElem h]; exact hl _ (List.getElem_mem h)
      · rw [List.getElem?_eq_none (by omega)]; simp
    unfold bestUp
    omega
theorem bestUp_pos (l : List Nat) (i : Nat) : 0 < bestUp l (i + 1) := by unfold bestUp; omega
theorem nS_ok {k j : Nat} (h1 : 1 ≤ k) (h2 : k ≤ 1099511627776) : snE (nS k j) = 0 := by
  unfold snE nS
  dsimp only
  rw [if_pos ⟨⟨by omega, by omega⟩, ⟨by decide, by decide⟩, by decide⟩, if_neg (by simp)]
theorem nS_len (k j : Nat) (h1 : 1 ≤ k) (h2 : k ≤ 1099511627776) : (snB (nS k j)).length ≤ 60 := by
  unfold snB
  rw [if_pos (nS_ok h1 h2), frameB_length]
  unfold snI inB nS
  dsimp only
  have a1 := numB_six k h2
  have a2 := numB_six 1 (by omega)
  have a3 := numB_six (listB [1] ++ listB []).length (by decide)
  have a4 := numB_six [j].length (by simp)
  have a5 : (listB [1] ++ listB []).length = 3 := by decide
  rw [show ((k : Int)).toNat = k from Int.toNat_natCast k, show (1 : Int).toNat = 1 from rfl]
  simp only [List.length_append] at *
  have a6 : [j].length = 1 := rfl
  omega
theorem used_put (k : Nm) (v : Sp) : ∀ ss : Ds, usedS (putF k v ss) ≤ usedS ss + v.now.length
  | [] => by simp [putF, usedS]
  | x :: r => by
    have ih := used_put k v r
    unfold putF
    unfold usedS at ih ⊢
    split
    · simp only [List.map_cons, List.sum_cons]; omega
    · split
      · simp only [List.map_cons, List.sum_cons]; omega
      · simp only [List.map_cons, List.sum_cons]; omega
theorem used_elders (k : Nat) (ss : Ds) : usedS (elders k ss) ≤ usedS ss := by
  unfold usedS elders
  induction ss with
  | nil => simp
  | cons x r ih =>
    rw [List.filter_cons]
    split
    · simp only [List.map_cons, List.sum_cons]; omega
    · simp only [List.map_cons, List.sum_cons]; omega
/-- What the disk holds behind the first saves. -/
structure NwI (l : List Nat) (i : Nat) (ss : Ds) : Prop where
  cl : Cl ss
  no : ∀ x ∈ ss, x.1 ≠ spareS
  len : ss.length ≤ i
  used : usedS ss ≤ 60 * i
  top : 0 < i → snF (nS (bestUp l i) (lastUp l (bestUp l i) i)) ∈ ss
  le : ∀ x ∈ ss, numS x.1 ≤ bestUp l i
theorem NwI.zero (l : List Nat) : NwI l 0 [] := ⟨⟨List.Pairwise.nil, (fun x hx => by cases hx)⟩, (fun x hx => by cases hx), Nat.le_refl _, by simp [usedS], (fun h => absurd h (by omega)), (fun x hx => by cases hx)⟩
theorem NwI.step {l : List Nat} {i : Nat} {ss : Ds} (h : NwI l i ss) (hl : ∀ x ∈ l, x < 65536) (hi : i < 12) (hil : i < l.length) :
    ∃ ss', sSave 65536 (nS (l.getD i 0 + 1) i) ss = (0, ss') ∧ NwI l (i + 1) ss' := by
  have hx : l.getD i 0 < 65536 := by
    rw [List.getD_eq_getElem?_getD, List.getElem?_eq_getElem hil]; exact hl _ (List.getElem_mem hil)
  have hk := nS_ok (j := i) (show 1 ≤ l.getD i 0 + 1 by omega) (by omega)
  have hkl := nS_len (l.getD i 0 + 1) i (by omega) (by omega)
  have hd : delF spareS ss = ss := delF_none (fun e => by
    obtain ⟨x, hx, ex⟩ := List.mem_map.1 e
    exact h.no x hx ex)
  have hlen := h.len
  have hus := h.used
  refine ⟨_, h.cl.save hk (by rw [hd]; omega) (by rw [hd]; omega), h.cl.saved hk, fun x hx => ?_, ?_, ?_, fun _ => ?_, fun x hx => ?_⟩
  · rcases (h.cl.kept hk x).1 hx with rfl | ⟨h1, h2, _⟩
    · exact snF_spare hk
    · exact h2
  · have := h.cl.len hk
    omega
  · have h1 := used_elders (nS (l.getD i 0 + 1) i).i.toNat (putF (snNm (nS (l.getD i 0 + 1) i).i.toNat) ⟨true, snB (nS (l.getD i 0 + 1) i), []⟩ (delF spareS ss))
    have h2 := used_put (snNm (nS (l.getD i 0 + 1) i).i.toNat) ⟨true, snB (nS (l.getD i 0 + 1) i), []⟩ (delF spareS ss)
    rw [nowSp, hd] at h2
    rw [hd] at h1 ⊢
    omega
  · rw [h.cl.kept hk]
    have ei : (nS (l.getD i 0 + 1) i).i.toNat = l.getD i 0 + 1 := Int.toNat_natCast _
    by_cases hb : bestUp l i ≤ l.getD i 0 + 1
    · left
      have e1 : bestUp l (i + 1) = l.getD i 0 + 1 := by rw [bestUp]; omega
      have e2 : lastUp l (l.getD i 0 + 1) (i + 1) = i := by rw [lastUp, if_pos rfl]
      rw [e1, e2]
    · right
      have e1 : bestUp l (i + 1) = bestUp l i := by rw [bestUp]; omega
      have e2 : lastUp l (bestUp l i) (i + 1) = lastUp l (bestUp l i) i := by rw [lastUp, if_neg (by omega)]
      rw [e1, e2]
      have hi0 : 0 < i := by
        rcases Nat.eq_zero_or_pos i with h0 | h0
        · subst h0; simp [bestUp] at hb
        · exact h0
      have hbl := bestUp_le l hl i
      have hk2 := nS_ok (j := lastUp l (bestUp l i) i) (show 1 ≤ bestUp l i by omega) (by omega)
      refine ⟨h.top hi0, snF_spare hk2, ?_⟩
      rw [snF_num hk2, ei]
      show l.getD i 0 + 1 < ((bestUp l i : Nat) : Int).toNat
      rw [Int.toNat_natCast]
      omega
  · have ei : (nS (l.getD i 0 + 1) i).i.toNat = l.getD i 0 + 1 := Int.toNat_natCast _
    have e1 : bestUp l (i + 1) = max (bestUp l i) (l.getD i 0 + 1) := rfl
    rcases (h.cl.kept hk x).1 hx with rfl | ⟨h1, h2, _⟩
    · rw [snF_num hk, ei]; omega
    · have := h.le x h1; omega
theorem NwI.load {l : List Nat} {i : Nat} {ss : Ds} (h : NwI l (i + 1) ss) (hl : ∀ x ∈ l, x < 65536) : sLoad ss = some (nS (bestUp l (i + 1)) (lastUp l (bestUp l (i + 1)) (i + 1))) := by
  have hb := bestUp_le l hl (i + 1)
  have hp := bestUp_pos l i
  refine h.cl.load (nS_ok hp (by omega)) (h.top (by omega)) (fun x hx _ => ?_)
  show numS x.1 ≤ ((bestUp l (i + 1) : Nat) : Int).toNat
  rw [Int.toNat_natCast]
  exact h.le x hx
theorem NwI.none {l : List Nat} {ss : Ds} (h : NwI l 0 ss) : sLoad ss = none := by
  have : ss = [] := List.length_eq_zero_iff.1 (by have := h.len; omega)
  subst this
  rfl
end Go.Proofs.YtagncghpfdjkmaaGreatDoor
end
/- SnapWhole, plainly: what a crash leaves, and what Load and Save make of it. -/
section
namespace Go.Proofs.YtagncghpfdjkmaaGreatDoor
open Go.ChangeShapes Go.WideShapes Go.ChangeAt Go.RowKit
set_option linter.unusedVariables false

theorem all_one {ss : Ds} {z : Nm × Sp} (h : Rises ss) (ha : ∀ x ∈ ss, x = z) (hz : z ∈ ss) : ss = [z] := by
  cases ss with
  | nil => cases hz
  | cons x r =>
    have e := ha x List.mem_cons_self
    subst e
    cases r with
    | nil => rfl
    | cons y r =>
      have e2 := ha y (List.mem_cons_of_mem _ List.mem_cons_self)
      have := (List.pairwise_cons.1 h).1 y List.mem_cons_self
      rw [e2] at this
      exact absurd this (nm_irrefl _)
/-- Beside snap.tmp there is this one alone. -/
structure Wh (a : Sn) (ss : Ds) : Prop where
  rise : Rises ss
  only : ∀ x ∈ ss, x.1 ≠ spareS → x = snF a
  there : snF a ∈ ss
theorem Wh.cl {a : Sn} {ss : Ds} (h : Wh a ss) (ha : snE a = 0) : Cl ss := ⟨h.rise, fun x hx hne => ⟨a, ha, h.only x hx hne⟩⟩
theorem Wh.load {a : Sn} {ss : Ds} (h : Wh a ss) (ha : snE a = 0) : sLoad ss = some a :=
  (h.cl ha).load ha h.there (fun x hx hne => by rw [h.only x hx hne, snF_num ha]; exact Nat.le_refl _)
theorem Wh.one {a : Sn} (ha : snE a = 0) : Wh a [snF a] := ⟨List.pairwise_singleton _ _, fun x hx _ => List.mem_singleton.1 hx, List.mem_singleton.2 rfl⟩
theorem Wh.tmp {a : Sn} {ss : Ds} (ha : snE a = 0) (h : Wh a ss) (v : Sp) : Wh a (putF spareS v ss) :=
  ⟨h.rise.put _ _, fun x hx hne => by
    rcases (mem_putF h.rise x).1 hx with rfl | ⟨h1, _⟩
    · exact absurd rfl hne
    · exact h.only x h1 hne, (mem_putF h.rise _).2 (.inr ⟨h.there, snF_spare ha⟩)⟩
theorem Wh.del {a : Sn} {ss : Ds} (ha : snE a = 0) (h : Wh a ss) : delF spareS ss = [snF a] :=
  all_one (h.rise.del _) (fun x hx => h.only x ((mem_delF x).1 hx).1 ((mem_delF x).1 hx).2) ((mem_delF _).2 ⟨h.there, snF_spare ha⟩)
/-- Save of the first one. -/
theorem save_first {room : Nat} {a : Sn} (ha : snE a = 0) (hu : (snB a).length ≤ room) : sSave room a [] = (0, [snF a]) := by
  have hc : Cl [] := ⟨List.Pairwise.nil, fun x hx => by cases hx⟩
  rw [hc.save ha (by simp [delF]) (by simp [delF, usedS]; omega)]
  congr 1
  refine all_one (hc.saved ha).rise (fun x hx => ?_) ((hc.kept ha _).2 (.inl rfl))
  rcases (hc.kept ha x).1 hx with e | ⟨e, _⟩
  · exact e
  · cases e
theorem Wh.save {room : Nat} {a b : Sn} {ss : Ds} (h : Wh a ss) (ha : snE a = 0) (hb : snE b = 0) (hlt : a.i < b.i) (hu : (snB a).length + (snB b).length ≤ room) : sSave room b ss = (0, [snF b]) := by
  have hc := h.cl ha
  rw [hc.save hb (by rw [h.del ha]; simp) (by rw [h.del ha]; simp [usedS]; rw [show (snF a).2.now = snB a from rfl]; omega)]
  congr 1
  refine all_one (hc.saved hb).rise (fun x hx => ?_) ((hc.kept hb _).2 (.inl rfl))
  rcases (hc.kept hb x).1 hx with e | ⟨e, e2, e3⟩
  · exact e
  · rw [h.only x e e2, snF_num ha] at e3
    have := (snE_may ha).1
    omega
/-- The elder and the newer one. -/
structure Wt (a b : Sn) (ss : Ds) : Prop where
  rise : Rises ss
  only : ∀ x ∈ ss, x = snF a ∨ x = snF b
  there : snF b ∈ ss
theorem Wt.cl {a b : Sn} {ss : Ds} (h : Wt a b ss) (ha : snE a = 0) (hb : snE b = 0) : Cl ss := ⟨h.rise, fun x hx _ => (h.only x hx).elim (fun e => ⟨a, ha, e⟩) (fun e => ⟨b, hb, e⟩)⟩
theorem Wt.load {a b : Sn} {ss : Ds} (h : Wt a b ss) (ha : snE a = 0) (hb : snE b = 0) (hlt : a.i < b.i) : sLoad ss = some b :=
  (h.cl ha hb).load hb h.there (fun x hx _ => by
    rcases h.only x hx with e | e
    · rw [e, snF_num ha]; omega
    · rw [e, snF_num hb]; exact Nat.le_refl _)
theorem Wt.save {room : Nat} {a b : Sn} {ss : Ds} (h : Wt a b ss) (ha : snE a = 0) (hb : snE b = 0) (hlt : a.i < b.i) (hl : ss.length < 16) (hu : usedS ss + (snB b).length ≤ room) : sSave room b ss = (0, [snF b]) := by
  have hc := h.cl ha hb
  have hd : delF spareS ss = ss := delF_none (fun e => by
    obtain ⟨x, hx, ex⟩ := List.mem_map.1 e
    rcases h.only x hx with e | e
    · exact snF_spare ha (by rw [← e]; exact ex)
    · exact snF_spare hb (by rw [← e]; exact ex))
  rw [hc.save hb (by rw [hd]; exact hl) (by rw [hd]; exact hu)]
  congr 1
  refine all_one (hc.saved hb).rise (fun x hx => ?_) ((hc.kept hb _).2 (.inl rfl))
  rcases (hc.kept hb x).1 hx with e | ⟨e, e2, e3⟩
  · exact e
  · rcases h.only x e with e4 | e4
    · rw [e4, snF_num ha] at e3
      have := (snE_may ha).1
      omega
    · exact e4
theorem snB_4000 {s : Sn} (h : snE s = 0) (hd : s.d.length ≤ 4000) : (snB s).length ≤ 4100 := by
  have hm := mem_len (snE_may h).2.2.1
  obtain ⟨h1, h2, _, _⟩ := snE_may h
  unfold snB
  rw [if_pos h, frameB_length]
  unfold snI inB
  have a1 := numB_six s.i.toNat (by omega)
  have a2 := numB_six s.t.toNat (by omega)
  have a3 := numB_six (listB s.v ++ listB s.l).length (by omega)
  have a4 := numB_six s.d.length (by omega)
  simp only [List.length_append] at *
  omega
/-- The steps of a Save by hand, on a disk that has the elder one alone. -/
theorem tmp_write {a b : Sn} (ha : snE a = 0) (hb : snE b = 0) (hu : (snB a).length + (snB b).length ≤ 65536) : dWrite 65536 spareS 0 (snB b) [snF a] = (0, putF spareS (wrote sp0 0 (snB b)) [snF a]) :=
  dWrite_new 65536 spareS spare_name (snB b) _ (getS_none.2 (fun e => by simp at e; exact snF_spare ha e.symm)) (by simp) (by have := snB_len hb; omega) (by simp [usedS]; rw [show (snF a).2.now = snB a from rfl]; exact hu)
end Go.Proofs.YtagncghpfdjkmaaGreatDoor
end
