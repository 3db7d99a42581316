/- Snapshots, plainly: disks that hold whole snapshots; what Save and Load make of them. -/
import Derived.Test.YtagncghpfdjkmaaGreatDoorB25
import Derived.Test.YtagncghpfdjkmaaGreatDoorB06
import Derived.Test.YtagncghpfdjkmaaGreatDoorB11
import Derived.Test.YtagncghpfdjkmaaGreatDoorB12
section
namespace Go.Proofs.YtagncghpfdjkmaaGreatDoor
open Go.ChangeShapes Go.WideShapes Go.ChangeAt Go.RowKit
set_option linter.unusedVariables false

/-- A snapshot's file, whole and synced. -/
def snF (s : Sn) : Nm × Sp := (snNm s.i.toNat, ⟨true, snB s, []⟩)
/-- All files but snap.tmp are whole snapshots. -/
structure Cl (ss : Ds) : Prop where
  rise : Rises ss
  each : ∀ x ∈ ss, x.1 ≠ spareS → ∃ s : Sn, snE s = 0 ∧ x = snF s
theorem dRemove_some {k : Nm} {ss : Ds} (h : k ∈ ss.map (·.1)) : dRemove k ss = (0, delF k ss) := by
  unfold dRemove
  cases hg : getS k ss with
  | none => exact absurd h (getS_none.1 hg)
  | some _ => rfl
theorem dRemove_2 (k : Nm) (ss : Ds) : (dRemove k ss).2 = delF k ss := by
  unfold dRemove
  cases hg : getS k ss with
  | none => exact (delF_none (getS_none.1 hg)).symm
  | some _ => rfl
theorem mem_delF_names {k j : Nm} {ss : Ds} (h : j ∈ ss.map (·.1)) (hne : j ≠ k) : j ∈ (delF k ss).map (·.1) := by
  obtain ⟨x, hx, rfl⟩ := List.mem_map.1 h
  exact List.mem_map.2 ⟨x, (mem_delF x).2 ⟨hx, hne⟩, rfl⟩
/-- What the files of smaller indices leave. -/
theorem remL_is (k : Nat) : ∀ (fs : List Fl) (ss : Ds), (fs.map (·.1)).Nodup → (∀ f ∈ fs, f.1 ∈ ss.map (·.1)) → remL k fs ss = (0, ss.filter (fun x => fs.all (fun f => decide (f.2 < k → x.1 ≠ f.1))))
  | [], ss, _, _ => by
    rw [remL]
    exact congrArg (fun z => (0, z)) (List.filter_eq_self.2 (fun _ _ => rfl)).symm
  | f :: r, ss, hn, hm => by
    rw [List.map_cons, List.nodup_cons] at hn
    unfold remL
    by_cases hk : k ≤ f.2
    · rw [if_pos hk, remL_is k r ss hn.2 (fun g hg => hm g (List.mem_cons_of_mem _ hg))]
      congr 1
      apply List.filter_congr
      intro x _
      rw [List.all_cons, show decide (f.2 < k → x.1 ≠ f.1) = true from decide_eq_true (fun h => by omega), Bool.true_and]
    · rw [if_neg hk, dRemove_some (hm f List.mem_cons_self)]
      dsimp only
      rw [if_neg (by decide), remL_is k r _ hn.2 (fun g hg => mem_delF_names (hm g (List.mem_cons_of_mem _ hg)) (fun e => hn.1 (List.mem_map.2 ⟨g, hg, e⟩)))]
      congr 1
      unfold delF
      rw [List.filter_filter]
      apply List.filter_congr
      intro x _
      rw [List.all_cons, Bool.and_comm]
      congr 1
      have : f.2 < k := by omega
      simp [this]
theorem filS_in {l : List Nm} {s : Nm} (hs : s ∈ l) (h0 : 0 < numS s) : (s, numS s) ∈ filS l := by
  unfold filS
  exact List.mem_filterMap.2 ⟨s, hs, by rw [if_pos h0]⟩
theorem filS_sub : ∀ l : List Nm, ((filS l).map (·.1)).Sublist l
  | [] => .slnil
  | s :: r => by
    unfold filS
    by_cases h : 0 < numS s
    · rw [List.filterMap_cons_some (by rw [if_pos h])]
      exact (filS_sub r).cons_cons s
    · rw [List.filterMap_cons_none (by rw [if_neg h])]
      exact (filS_sub r).cons s
theorem sor_nodup {ss : Ds} (h : Rises ss) : ((sorD (filS (ss.map (·.1)))).map (·.1)).Nodup :=
  (((sorD_perm _).map (·.1)).nodup_iff).2 ((filS_sub _).nodup h.nodup)
theorem sor_mem {l : List Nm} {f : Fl} : f ∈ sorD (filS l) ↔ f ∈ filS l := (sorD_perm _).mem_iff
/-- The elder ones go. -/
def elders (k : Nat) (ss : Ds) : Ds := ss.filter (fun x => !(decide (0 < numS x.1) && decide (numS x.1 < k)))
theorem rem_elders (k : Nat) {ss : Ds} (h : Rises ss) : remL k (sorD (filS (ss.map (·.1)))) ss = (0, elders k ss) := by
  rw [remL_is k _ ss (sor_nodup h) (fun f hf => (filS_mem (sor_mem.1 hf)).1)]
  congr 1
  apply List.filter_congr
  intro x hx
  rw [Bool.eq_iff_iff, List.all_eq_true]
  simp only [decide_eq_true_eq, Bool.not_eq_true', Bool.and_eq_false_imp, decide_eq_false_iff_not]
  constructor
  · intro h1 h0 hk
    exact h1 (x.1, numS x.1) (sor_mem.2 (filS_in (List.mem_map.2 ⟨x, hx, rfl⟩) h0)) hk rfl
  · intro h1 f hf hk e
    obtain ⟨_, h0, hn, hle⟩ := filS_mem (sor_mem.1 hf)
    have : numS x.1 = f.2 := by rw [e, hn]; exact numS_snNm _ h0 hle
    exact h1 (by omega) (by omega)
theorem snF_num {s : Sn} (h : snE s = 0) : numS (snF s).1 = s.i.toNat := by
  have := (snE_may h).1
  exact numS_snNm _ (by omega) (by omega)
theorem snNm_name {k : Nat} (h1 : 1 ≤ k) (h2 : k ≤ 1099511627776) : nameL (snNm k) = true := by
  unfold nameL
  have hl := snNm_len k (by omega)
  have h0 : 1 ≤ (snNm k).length := by unfold snNm; rw [List.length_append]; simp [snapW]; omega
  have ha : (snNm k).all (fun b => stands b.toNat) = true := by
    unfold snNm
    rw [List.all_append, show snapW.all (fun b => stands b.toNat) = true from by decide +kernel, Bool.true_and, List.all_eq_true]
    intro b hb
    have := dec_digits k b hb
    unfold stands
    simp
    omega
  simp [h0, ha]
  omega
theorem snB_len {s : Sn} (h : snE s = 0) : (snB s).length ≤ 16436 := by
  unfold snB
  rw [if_pos h, frameB_length]
  have := snI_len h
  omega
theorem wroteSp (o : List Nat) : (wrote sp0 0 o).now = o := wrote0_now o
theorem spare_name : nameL spareS = true := by decide +kernel
theorem delF_put (k : Nm) (v : Sp) : ∀ (ss : Ds), k ∉ ss.map (·.1) → delF k (putF k v ss) = ss
  | [], _ => by simp [putF, delF]
  | x :: r, h => by
    rw [List.map_cons, List.mem_cons, not_or] at h
    have ih := delF_put k v r h.2
    have hd := delF_none (k := k) (fs := r) h.2
    have hx : decide (x.1 ≠ k) = true := decide_eq_true (fun e => h.1 e.symm)
    unfold putF
    split
    · unfold delF at ih ⊢
      rw [List.filter_cons_of_pos (p := fun x : Nm × Sp => decide (x.1 ≠ k)) hx, ih]
    · split
      · rename_i e
        exact absurd e.symm h.1
      · unfold delF at hd ⊢
        rw [List.filter_cons_of_neg (by simp), List.filter_cons_of_pos (p := fun x : Nm × Sp => decide (x.1 ≠ k)) hx, hd]
theorem putF_putF (k : Nm) (u v : Sp) : ∀ (ss : Ds), putF k v (putF k u ss) = putF k v ss
  | [] => by simp [putF, nm_irrefl]
  | x :: r => by
    have ih := putF_putF k u v r
    by_cases h1 : x.1 < k
    · simp only [putF, if_pos h1, ih]
    · by_cases h2 : x.1 = k
      · simp [putF, h2, nm_irrefl]
      · simp [putF, h1, h2, nm_irrefl]
/-- Save on such a disk. -/
theorem Cl.save {room : Nat} {s : Sn} {ss : Ds} (h : Cl ss) (hs : snE s = 0) (hl : (delF spareS ss).length < 16) (hu : usedS (delF spareS ss) + (snB s).length ≤ room) :
    sSave room s ss = (0, elders s.i.toNat (putF (snNm s.i.toNat) ⟨true, snB s, []⟩ (delF spareS ss))) := by
  have hi := (snE_may hs).1
  have hr := h.rise.del spareS
  have hno : spareS ∉ (delF spareS ss).map (·.1) := fun e => by
    obtain ⟨x, hx, ex⟩ := List.mem_map.1 e
    exact ((mem_delF x).1 hx).2 ex
  have hg := getS_none.2 hno
  have hK : sKeep room s.i.toNat (snB s) (delF spareS ss) = (0, elders s.i.toNat (putF (snNm s.i.toNat) ⟨true, snB s, []⟩ (delF spareS ss))) := by
    rw [sKeep_1 (dWrite_new room spareS spare_name (snB s) _ hg hl (by have := snB_len hs; omega) hu), if_neg (by decide)]
    have hr1 := hr.put spareS (wrote sp0 0 (snB s))
    have hS : dSync spareS (putF spareS (wrote sp0 0 (snB s)) (delF spareS ss)) = (0, putF spareS ⟨true, snB s, []⟩ (delF spareS ss)) := by
      unfold dSync
      rw [getS_put hr, if_pos rfl]
      dsimp only
      rw [wroteSp, putF_putF]
    rw [hS, if_neg (fun q => q rfl)]
    have hR : dRename spareS (snNm s.i.toNat) (putF spareS ⟨true, snB s, []⟩ (delF spareS ss)) = (0, putF (snNm s.i.toNat) ⟨true, snB s, []⟩ (delF spareS ss)) := by
      unfold dRename
      rw [getS_put hr, if_pos rfl]
      dsimp only
      rw [if_pos (snNm_name (by omega) (by omega)), delF_put _ _ _ hno]
    rw [hR, if_neg (fun q => q rfl)]
    exact rem_elders _ (hr.put _ _)
  unfold sSave
  rw [if_neg (by rw [hs]; decide), dRemove_2, hK, if_neg (fun q => q rfl)]
theorem Cl.kept {s : Sn} {ss : Ds} (h : Cl ss) (hs : snE s = 0) (x : Nm × Sp) : x ∈ elders s.i.toNat (putF (snNm s.i.toNat) ⟨true, snB s, []⟩ (delF spareS ss)) ↔ (x = snF s ∨ (x ∈ ss ∧ x.1 ≠ spareS ∧ s.i.toNat < numS x.1)) := by
  unfold elders
  have hn := snF_num hs
  have hi := (snE_may hs).1
  rw [List.mem_filter, mem_putF (h.rise.del _), mem_delF]
  constructor
  · rintro ⟨rfl | ⟨⟨h1, h2⟩, h3⟩, h4⟩
    · exact .inl rfl
    · right
      refine ⟨h1, h2, ?_⟩
      obtain ⟨t, ht, rfl⟩ := h.each x h1 h2
      have hm := snF_num ht
      have hj := (snE_may ht).1
      rw [hm] at h4 ⊢
      simp at h4
      have : s.i.toNat ≠ t.i.toNat := fun e => h3 (by unfold snF; rw [e])
      omega
  · rintro (rfl | ⟨h1, h2, h3⟩)
    · refine ⟨.inl rfl, ?_⟩
      simp [hn]
    · refine ⟨.inr ⟨⟨h1, h2⟩, fun e => ?_⟩, ?_⟩
      · have e' : x.1 = (snF s).1 := e
        rw [e', hn] at h3
        omega
      · simp
        omega
theorem Cl.len {s : Sn} {ss : Ds} (h : Cl ss) (hs : snE s = 0) : (elders s.i.toNat (putF (snNm s.i.toNat) ⟨true, snB s, []⟩ (delF spareS ss))).length ≤ ss.length + 1 := by
  have h1 : (elders s.i.toNat (putF (snNm s.i.toNat) ⟨true, snB s, []⟩ (delF spareS ss))).length ≤ (putF (snNm s.i.toNat) ⟨true, snB s, []⟩ (delF spareS ss)).length := List.length_filter_le _ _
  have h2 := putF_length (k := snNm s.i.toNat) (v := (⟨true, snB s, []⟩ : Sp)) (h.rise.del spareS)
  have h3 : (delF spareS ss).length ≤ ss.length := List.length_filter_le _ _
  split at h2 <;> omega
/-- Load tells the one of the greatest index. -/
theorem Cl.load {s : Sn} {ss : Ds} (h : Cl ss) (hs : snE s = 0) (hm : snF s ∈ ss) (hg : ∀ x ∈ ss, x.1 ≠ spareS → numS x.1 ≤ s.i.toNat) : sLoad ss = some s := by
  unfold sLoad
  have hmem : ((snF s).1, s.i.toNat) ∈ sorD (filS (ss.map (·.1))) := by
    rw [sor_mem, ← snF_num hs]
    have := (snE_may hs).1
    exact filS_in (List.mem_map.2 ⟨_, hm, rfl⟩) (by rw [snF_num hs]; omega)
  have hd := sorD_desc (filS (ss.map (·.1)))
  have hel : ∀ f ∈ sorD (filS (ss.map (·.1))), f.1 ∈ ss.map (·.1) ∧ f.1 = snNm f.2 ∧ 0 < f.2 ∧ f.2 ≤ 1099511627776 := fun f hf => by
    obtain ⟨h1, h2, h3, h4⟩ := filS_mem (sor_mem.1 hf)
    exact ⟨h1, h3, h2, h4⟩
  generalize sorD (filS (ss.map (·.1))) = fs at *
  cases fs with
  | nil => cases hmem
  | cons f r =>
    obtain ⟨h1, h2, h3, h4⟩ := hel f List.mem_cons_self
    have hge : s.i.toNat ≤ f.2 := by
      rcases List.mem_cons.1 hmem with e | e
      · rw [← e]; exact Nat.le_refl _
      · exact (List.pairwise_cons.1 hd).1 _ e
    have hle : f.2 ≤ s.i.toNat := by
      obtain ⟨x, hx, ex⟩ := List.mem_map.1 h1
      have e1 : numS x.1 = f.2 := by rw [ex, h2]; exact numS_snNm _ h3 h4
      rw [← e1]
      exact hg x hx (fun e => by rw [e, spare_num] at e1; omega)
    have ef : f.2 = s.i.toNat := by omega
    have e1 : f.1 = (snF s).1 := by rw [h2, ef]; rfl
    have eg : getS f.1 ss = some ⟨true, snB s, []⟩ := by rw [e1]; exact getS_mem h.rise hm
    have el : snL (snB s) = .ok s := by unfold snB; rw [if_pos hs]; exact snL_at hs
    unfold loadL
    rw [if_neg (by unfold readE; rw [eg]; exact fun q => q rfl)]
    have en : nowL f.1 ss = snB s := by unfold nowL; rw [eg]; rfl
    rw [en, el]
    dsimp only
    have := (snE_may hs).1
    rw [if_pos ⟨by rw [e1]; rfl, by rw [ef]; omega⟩]
/-- A crash leaves whole files as they are. -/
theorem crash_whole (ks : List Int) : ∀ (ss : Ds) (i : Nat), (∀ x ∈ ss, ∃ y, x.2 = ⟨true, y, []⟩) → crashS ks i ss = ss
  | [], i, _ => rfl
  | x :: r, i, h => by
    obtain ⟨k, v⟩ := x
    obtain ⟨y, hy⟩ := h (k, v) List.mem_cons_self
    dsimp only at hy
    subst hy
    rw [crashS_first, crash_whole ks r (i + 1) (fun x hx => h x (List.mem_cons_of_mem _ hx))]
end Go.Proofs.YtagncghpfdjkmaaGreatDoor
end
/- The document's digits. -/
section
namespace Go.Proofs.YtagncghpfdjkmaaGreatDoor
open Go.ChangeShapes Go.WideShapes Go.ChangeAt Go.RowKit
set_option linter.unusedVariables false

theorem one_byte {w : World} {g d : Nat} (h : w.heap[g]? = some (.cells #[.int .u8 (d : Int)] 5 (0, 0))) (hd : d < 256) : (convert 27 9 (.slice (some ⟨g, 0, none⟩) 1 1)).run Tryz.prog w = .ok (.string (str [UInt8.ofNat d])) w :=
  run_string8 (l := [d]) 1 1 rfl (bytesAt_block (g := g) (l := [d]) (t := 5) (fr := (0, 0)) h (fun c hc => by rw [List.mem_singleton] at hc; omega))
theorem step_build1 {w : World} {ops : Array Oper} {o : Oper} {a : Act} {K : Act → World → Prop} {Q : Exit → Act → World → Prop} {E : Prop} (hgd : o.guard = none) (t : Nat)
    (ho : o.op = .buildSlice 27 1 #[(0, .tmp t)]) (d : Nat) (hs : a.tmps[t]?.getD undef = .int .u8 (d : Int))
    (h : ∀ g w', w'.heap[g]? = some (.cells #[.int .u8 (d : Int)] 5 (0, 0)) → Below w.heap.size w w' → K (a.put o.dst (.slice (some ⟨g, 0, none⟩) 1 1)) w') :
    if Region.wanted o (yielded ops a.tmps) = true then Oper.wp Tryz.prog o a w K Q else E := by
  have hw : Region.wanted o (yielded ops a.tmps) = true := by simp [Region.wanted, hgd]
  rw [if_pos hw]
  have h1 := h w.heap.size (w.alloc (.cells #[.int .u8 (d : Int)] 5)) (heap_new w _) ((Below.refl _ _).alloc (Nat.le_refl _) _)
  unfold Oper.wp
  simp [execOp, ho, go_sem, hs]
  exact h1
theorem step_conv {w : World} {ops : Array Oper} {o : Oper} {a : Act} {K : Act → World → Prop} {Q : Exit → Act → World → Prop} {E : Prop} (hgd : o.guard = none) (s : Operand) (f t : TypeId)
    (ho : o.op = .convert f t s) (v x : Value) (hs : a.eval s = v) (hr : (convert f t v).run Tryz.prog w = .ok x w)
    (h : K (a.put o.dst x) w) :
    if Region.wanted o (yielded ops a.tmps) = true then Oper.wp Tryz.prog o a w K Q else E := by
  have hw : Region.wanted o (yielded ops a.tmps) = true := by simp [Region.wanted, hgd]
  rw [if_pos hw]
  unfold Oper.wp
  simp [execOp, ho, hs, hr, Result.andThen]
  exact h
set_option maxRecDepth 20000 in
set_option maxHeartbeats 4000000 in
theorem digits_small (n : Nat) (h : n < 10) (w : World) : Calls Tryz.prog 75 #[.int .i64 (n : Int)] w fun e w' => e = .returned (.string (str (Lib.decDigits n))) ∧ Below w.heap.size w w' := by
  rw [dec_small h]
  have hx : (n : Int) < 10 := by omega
  have hw : IntKind.u8.wrap (48 + (n : Int)) = ((48 + n : Nat) : Int) := by rw [IntKind.wrap_u8]; omega
  have hcv := one_byte (heap_new w (.cells #[.int .u8 ((48 + n : Nat) : Int)] 5)) (show 48 + n < 256 by omega)
  have B1 := hide (show Below w.heap.size w (w.alloc (.cells #[.int .u8 ((48 + n : Nat) : Int)] 5)) from (Below.refl _ _).alloc (Nat.le_refl _) _)
  generalize ((48 + n : Nat) : Int) = d at *
  generalize str [UInt8.ofNat (48 + n)] = sd at *
  go_enter Tryz.func75, Tryz.ntmps75
  go_wp2
  go_ret
  exact ⟨rfl, unhide B1⟩
set_option maxRecDepth 20000 in
set_option maxHeartbeats 4000000 in
theorem digits_big (n : Nat) (h : ¬ n < 10) (hn : n ≤ 9223372036854775807) (ih : ∀ w, Calls Tryz.prog 75 #[.int .i64 ((n / 10 : Nat) : Int)] w fun e w' => e = .returned (.string (str (Lib.decDigits (n / 10)))) ∧ Below w.heap.size w w') (w : World) : Calls Tryz.prog 75 #[.int .i64 (n : Int)] w fun e w' => e = .returned (.string (str (Lib.decDigits n))) ∧ Below w.heap.size w w' := by
  have hx : ¬ (n : Int) < 10 := by omega
  have DD := hide (show (str (Lib.decDigits (n / 10))) ++ str [UInt8.ofNat (48 + n % 10)] = str (Lib.decDigits n) from by rw [dec_big h]; unfold str; apply ByteArray.ext; simp)
  have hsz : (str (Lib.decDigits (n / 10))).size ≤ 20 := by rw [str_size]; exact Nat.le_trans (dec_len 18 (n / 10) (by omega)) (by omega)
  have hs1 : (str [UInt8.ofNat (48 + n % 10)]).size = 1 := rfl
  have IH := hide ih
  have q1 : IntKind.i64.wrap ((n : Int) / 10) = ((n / 10 : Nat) : Int) := by rw [IntKind.wrap_i64]; omega
  have q2 : (n : Int).tmod 10 = ((n % 10 : Nat) : Int) := by rw [Int.tmod_eq_emod_of_nonneg (by omega)]; omega
  have q3 : IntKind.u8.wrap (48 + ((n % 10 : Nat) : Int)) = ((48 + n % 10 : Nat) : Int) := by rw [IntKind.wrap_u8]; omega
  have q4 : IntKind.i64.wrap (48 + ((n % 10 : Nat) : Int)) = 48 + ((n % 10 : Nat) : Int) := by rw [IntKind.wrap_i64]; omega
  have hd : 48 + n % 10 < 256 := by omega
  generalize n / 10 = k at *
  have hk9 : n % 10 < 10 := by omega
  generalize n % 10 = m at *
  have XO := hide (show ∀ (V : World) (g : Nat), V.heap[g]? = some (.cells #[.int .u8 ((48 + m : Nat) : Int)] 5 (0, 0)) → (convert 27 9 (.slice (some ⟨g, 0, none⟩) 1 1)).run Tryz.prog V = .ok (.string (str [UInt8.ofNat (48 + m)])) V from fun V g h => one_byte h hd)
  clear hd
  generalize 48 + m = d at *
  generalize str [UInt8.ofNat d] = sd at *
  generalize str (Lib.decDigits k) = sk at *
  have hq5 : ¬ 9223372036854775807 < sk.size + 1 := by omega
  clear ih
  go_enter Tryz.func75, Tryz.ntmps75
  go_wp2_with fail
  have F := hide (show Below w.heap.size w w.drew from (Below.refl _ _).drew)
  refine wp_region_held_drew (S := fun _ => True) (by kernel_rfl) ?_ (fun hHeld => ?_)
  · try dsimp only
    all_goals exact trivial
  refine held_take 0 (oi := { dst := some 10, op := Op.move (Operand.tmp 0), type := 3, pos := "ref.go:30", after := #[], guard := none }) (v := ?_) (by kernel_rfl) rfl (by rfl) (by kernel_rfl) (by kernel_rfl) (fun _ _ _ h => h) ?_ (by assumption) ?_
  rotate_left
  · (intro w hSw; (try dsimp only at hSw); go_simp; try with_reducible rfl)
  try simp only [Act.put, List.setIfInBounds_toArray, List.set_cons_zero, List.set_cons_succ]
  refine held_take 1 (oi := { dst := some 11, op := Op.binOp BinOp.quo 3 (Operand.tmp 10) (Operand.const (Value.int IntKind.i64 10)) 3, type := 3, pos := "ref.go:30", after := #[{ on := 0, ground := Ground.data }], guard := none }) (v := ?_) (by kernel_rfl) rfl (by rfl) (by kernel_rfl) (by kernel_rfl) (fun _ _ _ h => h) ?_ (by assumption) ?_
  rotate_left
  · (intro w hSw; (try dsimp only at hSw); go_simp; try with_reducible rfl)
  try simp only [Act.put, List.setIfInBounds_toArray, List.set_cons_zero, List.set_cons_succ]
  refine held_take 3 (oi := { dst := some 13, op := Op.move (Operand.tmp 0), type := 3, pos := "ref.go:30", after := #[], guard := none }) (v := ?_) (by kernel_rfl) rfl (by rfl) (by kernel_rfl) (by kernel_rfl) (fun _ _ _ h => h) ?_ (by assumption) ?_
  rotate_left
  · (intro w hSw; (try dsimp only at hSw); go_simp; try with_reducible rfl)
  try simp only [Act.put, List.setIfInBounds_toArray, List.set_cons_zero, List.set_cons_succ]
  refine held_take 4 (oi := { dst := some 14, op := Op.binOp BinOp.rem 3 (Operand.tmp 13) (Operand.const (Value.int IntKind.i64 10)) 3, type := 3, pos := "ref.go:30", after := #[{ on := 3, ground := Ground.data }], guard := none }) (v := ?_) (by kernel_rfl) rfl (by rfl) (by kernel_rfl) (by kernel_rfl) (fun _ _ _ h => h) ?_ (by assumption) ?_
  rotate_left
  · (intro w hSw; (try dsimp only at hSw); go_simp; try with_reducible rfl)
  try simp only [Act.put, List.setIfInBounds_toArray, List.set_cons_zero, List.set_cons_succ]
  refine held_take 5 (oi := { dst := some 15, op := Op.binOp BinOp.add 3 (Operand.const (Value.int IntKind.i64 48)) (Operand.tmp 14) 3, type := 3, pos := "ref.go:30", after := #[{ on := 4, ground := Ground.data }], guard := none }) (v := ?_) (by kernel_rfl) rfl (by rfl) (by kernel_rfl) (by kernel_rfl) (fun _ _ _ h => h) ?_ (by assumption) ?_
  rotate_left
  · (intro w hSw; (try dsimp only at hSw); go_simp; try with_reducible rfl)
  try simp only [Act.put, List.setIfInBounds_toArray, List.set_cons_zero, List.set_cons_succ]
  refine held_take 6 (oi := { dst := some 16, op := Op.convert 3 5 (Operand.tmp 15), type := 5, pos := "ref.go:30", after := #[{ on := 5, ground := Ground.data }], guard := none }) (v := ?_) (by kernel_rfl) rfl (by rfl) (by kernel_rfl) (by kernel_rfl) (fun _ _ _ h => h) ?_ (by assumption) ?_
  rotate_left
  · (intro w hSw; (try dsimp only at hSw); go_simp; try with_reducible rfl)
  try simp only [Act.put, List.setIfInBounds_toArray, List.set_cons_zero, List.set_cons_succ]
  refine wpAnyH_ready (rs := [2, 7]) (by kernel_rfl) (by simp) ?_
  refine AllReadyH.cons (o := { dst := some 12, op := Op.call { callee := Callee.value (Operand.func 75), args := #[Operand.tmp 11], argTypes := #[3] }, type := 9, pos := "ref.go:30", after := #[{ on := 1, ground := Ground.data }], guard := none }) rfl (fun K hK => ?_) ?_
  · go_simp
    refine (unhide IH _).mono ?_
    rintro e W4 ⟨rfl, b4⟩
    have F := hide ((unhide F).trans (b4.mono (unhide F).size))
    first | (have XB := hide (later_block b4 (unhide XB))) | skip
    clear b4
    go_wp2_with fail
    refine hK.out _ _ ?_ (fun hHeld => ?_)
    · try dsimp only
      all_goals exact trivial
    clear hK K
    try simp only [Act.put, List.setIfInBounds_toArray, List.set_cons_zero, List.set_cons_succ]
    refine wpAnyH_ready (rs := [7]) (by kernel_rfl) (by simp) ?_
    refine AllReadyH.cons (o := { dst := some 17, op := Op.buildSlice 27 1 #[(0, Operand.tmp 16)], type := 27, pos := "ref.go:30", after := #[{ on := 6, ground := Ground.data }], guard := none }) rfl (fun K hK => ?_) ?_
    · refine step_build1 rfl 16 rfl d rfl ?_
      intro g7 W7 h7 b7
      have XB := hide h7
      have F := hide ((unhide F).trans (b7.mono (unhide F).size))
      clear h7 b7
      refine hK.out _ _ ?_ (fun hHeld => ?_)
      · try dsimp only
        all_goals exact trivial
      clear hK K
      try simp only [Act.put, List.setIfInBounds_toArray, List.set_cons_zero, List.set_cons_succ]
      refine wpAnyH_ready (rs := [8]) (by kernel_rfl) (by simp) ?_
      refine AllReadyH.cons (o := { dst := some 18, op := Op.convert 27 9 (Operand.tmp 17), type := 9, pos := "ref.go:30", after := #[{ on := 7, ground := Ground.data }], guard := none }) rfl (fun K hK => ?_) ?_
      · refine step_conv rfl (.tmp 17) _ _ rfl _ _ rfl (unhide XO _ _ (unhide XB)) ?_
        refine hK.out _ _ ?_ (fun hHeld => ?_)
        · try dsimp only
          all_goals exact trivial
        clear hK K
        try simp only [Act.put, List.setIfInBounds_toArray, List.set_cons_zero, List.set_cons_succ]
        refine held_take 9 (oi := { dst := some 19, op := Op.binOp BinOp.add 9 (Operand.tmp 12) (Operand.tmp 18) 9, type := 9, pos := "ref.go:30", after := #[{ on := 2, ground := Ground.data }, { on := 8, ground := Ground.data }], guard := none }) (v := ?_) (by kernel_rfl) rfl (by rfl) (by kernel_rfl) (by kernel_rfl) (fun _ _ _ h => h) ?_ (by assumption) ?_
        rotate_left
        · (intro w hSw; (try dsimp only at hSw); go_simp; try with_reducible rfl)
        try simp only [Act.put, List.setIfInBounds_toArray, List.set_cons_zero, List.set_cons_succ]
        refine held_take 10 (oi := { dst := some 2, op := Op.assign (Operand.tmp 19), type := 9, pos := "ref.go:30", after := #[{ on := 9, ground := Ground.data }, { on := 2, ground := Ground.chain }, { on := 0, ground := Ground.phase }, { on := 1, ground := Ground.phase }, { on := 2, ground := Ground.phase }, { on := 3, ground := Ground.phase }, { on := 4, ground := Ground.phase }, { on := 5, ground := Ground.phase }, { on := 6, ground := Ground.phase }, { on := 7, ground := Ground.phase }, { on := 8, ground := Ground.phase }, { on := 9, ground := Ground.phase }], guard := none }) (v := ?_) (by kernel_rfl) rfl (by rfl) (by kernel_rfl) (by kernel_rfl) (fun _ _ _ h => h) ?_ (by assumption) ?_
        rotate_left
        · (intro w hSw; (try dsimp only at hSw); go_simp; try with_reducible rfl)
        try simp only [Act.put, List.setIfInBounds_toArray, List.set_cons_zero, List.set_cons_succ]
        refine wpAnyH_done (by kernel_rfl) ?_ _
        go_wp2
        go_ret
        exact ⟨by rw [unhide DD]; rfl, unhide F⟩
      exact AllReadyH.nil
    exact AllReadyH.nil
  refine AllReadyH.cons (o := { dst := some 17, op := Op.buildSlice 27 1 #[(0, Operand.tmp 16)], type := 27, pos := "ref.go:30", after := #[{ on := 6, ground := Ground.data }], guard := none }) rfl (fun K hK => ?_) ?_
  · refine step_build1 rfl 16 rfl d rfl ?_
    intro g7 W7 h7 b7
    have XB := hide h7
    have F := hide ((unhide F).trans (b7.mono (unhide F).size))
    clear h7 b7
    refine hK.out _ _ ?_ (fun hHeld => ?_)
    · try dsimp only
      all_goals exact trivial
    clear hK K
    try simp only [Act.put, List.setIfInBounds_toArray, List.set_cons_zero, List.set_cons_succ]
    refine wpAnyH_ready (rs := [2, 8]) (by kernel_rfl) (by simp) ?_
    refine AllReadyH.cons (o := { dst := some 12, op := Op.call { callee := Callee.value (Operand.func 75), args := #[Operand.tmp 11], argTypes := #[3] }, type := 9, pos := "ref.go:30", after := #[{ on := 1, ground := Ground.data }], guard := none }) rfl (fun K hK => ?_) ?_
    · go_simp
      refine (unhide IH _).mono ?_
      rintro e W4 ⟨rfl, b4⟩
      have F := hide ((unhide F).trans (b4.mono (unhide F).size))
      first | (have XB := hide (later_block b4 (unhide XB))) | skip
      clear b4
      go_wp2_with fail
      refine hK.out _ _ ?_ (fun hHeld => ?_)
      · try dsimp only
        all_goals exact trivial
      clear hK K
      try simp only [Act.put, List.setIfInBounds_toArray, List.set_cons_zero, List.set_cons_succ]
      refine wpAnyH_ready (rs := [8]) (by kernel_rfl) (by simp) ?_
      refine AllReadyH.cons (o := { dst := some 18, op := Op.convert 27 9 (Operand.tmp 17), type := 9, pos := "ref.go:30", after := #[{ on := 7, ground := Ground.data }], guard := none }) rfl (fun K hK => ?_) ?_
      · refine step_conv rfl (.tmp 17) _ _ rfl _ _ rfl (unhide XO _ _ (unhide XB)) ?_
        refine hK.out _ _ ?_ (fun hHeld => ?_)
        · try dsimp only
          all_goals exact trivial
        clear hK K
        try simp only [Act.put, List.setIfInBounds_toArray, List.set_cons_zero, List.set_cons_succ]
        refine held_take 9 (oi := { dst := some 19, op := Op.binOp BinOp.add 9 (Operand.tmp 12) (Operand.tmp 18) 9, type := 9, pos := "ref.go:30", after := #[{ on := 2, ground := Ground.data }, { on := 8, ground := Ground.data }], guard := none }) (v := ?_) (by kernel_rfl) rfl (by rfl) (by kernel_rfl) (by kernel_rfl) (fun _ _ _ h => h) ?_ (by assumption) ?_
        rotate_left
        · (intro w hSw; (try dsimp only at hSw); go_simp; try with_reducible rfl)
        try simp only [Act.put, List.setIfInBounds_toArray, List.set_cons_zero, List.set_cons_succ]
        refine held_take 10 (oi := { dst := some 2, op := Op.assign (Operand.tmp 19), type := 9, pos := "ref.go:30", after := #[{ on := 9, ground := Ground.data }, { on := 2, ground := Ground.chain }, { on := 0, ground := Ground.phase }, { on := 1, ground := Ground.phase }, { on := 2, ground := Ground.phase }, { on := 3, ground := Ground.phase }, { on := 4, ground := Ground.phase }, { on := 5, ground := Ground.phase }, { on := 6, ground := Ground.phase }, { on := 7, ground := Ground.phase }, { on := 8, ground := Ground.phase }, { on := 9, ground := Ground.phase }], guard := none }) (v := ?_) (by kernel_rfl) rfl (by rfl) (by kernel_rfl) (by kernel_rfl) (fun _ _ _ h => h) ?_ (by assumption) ?_
        rotate_left
        · (intro w hSw; (try dsimp only at hSw); go_simp; try with_reducible rfl)
        try simp only [Act.put, List.setIfInBounds_toArray, List.set_cons_zero, List.set_cons_succ]
        refine wpAnyH_done (by kernel_rfl) ?_ _
        go_wp2
        go_ret
        exact ⟨by rw [unhide DD]; rfl, unhide F⟩
      exact AllReadyH.nil
    refine AllReadyH.cons (o := { dst := some 18, op := Op.convert 27 9 (Operand.tmp 17), type := 9, pos := "ref.go:30", after := #[{ on := 7, ground := Ground.data }], guard := none }) rfl (fun K hK => ?_) ?_
    · refine step_conv rfl (.tmp 17) _ _ rfl _ _ rfl (unhide XO _ _ (unhide XB)) ?_
      refine hK.out _ _ ?_ (fun hHeld => ?_)
      · try dsimp only
        all_goals exact trivial
      clear hK K
      try simp only [Act.put, List.setIfInBounds_toArray, List.set_cons_zero, List.set_cons_succ]
      refine wpAnyH_ready (rs := [2]) (by kernel_rfl) (by simp) ?_
      refine AllReadyH.cons (o := { dst := some 12, op := Op.call { callee := Callee.value (Operand.func 75), args := #[Operand.tmp 11], argTypes := #[3] }, type := 9, pos := "ref.go:30", after := #[{ on := 1, ground := Ground.data }], guard := none }) rfl (fun K hK => ?_) ?_
      · go_simp
        refine (unhide IH _).mono ?_
        rintro e W4 ⟨rfl, b4⟩
        have F := hide ((unhide F).trans (b4.mono (unhide F).size))
        first | (have XB := hide (later_block b4 (unhide XB))) | skip
        clear b4
        go_wp2_with fail
        refine hK.out _ _ ?_ (fun hHeld => ?_)
        · try dsimp only
          all_goals exact trivial
        clear hK K
        try simp only [Act.put, List.setIfInBounds_toArray, List.set_cons_zero, List.set_cons_succ]
        refine held_take 9 (oi := { dst := some 19, op := Op.binOp BinOp.add 9 (Operand.tmp 12) (Operand.tmp 18) 9, type := 9, pos := "ref.go:30", after := #[{ on := 2, ground := Ground.data }, { on := 8, ground := Ground.data }], guard := none }) (v := ?_) (by kernel_rfl) rfl (by rfl) (by kernel_rfl) (by kernel_rfl) (fun _ _ _ h => h) ?_ (by assumption) ?_
        rotate_left
        · (intro w hSw; (try dsimp only at hSw); go_simp; try with_reducible rfl)
        try simp only [Act.put, List.setIfInBounds_toArray, List.set_cons_zero, List.set_cons_succ]
        refine held_take 10 (oi := { dst := some 2, op := Op.assign (Operand.tmp 19), type := 9, pos := "ref.go:30", after := #[{ on := 9, ground := Ground.data }, { on := 2, ground := Ground.chain }, { on := 0, ground := Ground.phase }, { on := 1, ground := Ground.phase }, { on := 2, ground := Ground.phase }, { on := 3, ground := Ground.phase }, { on := 4, ground := Ground.phase }, { on := 5, ground := Ground.phase }, { on := 6, ground := Ground.phase }, { on := 7, ground := Ground.phase }, { on := 8, ground := Ground.phase }, { on := 9, ground := Ground.phase }], guard := none }) (v := ?_) (by kernel_rfl) rfl (by rfl) (by kernel_rfl) (by kernel_rfl) (fun _ _ _ h => h) ?_ (by assumption) ?_
        rotate_left
        · (intro w hSw; (try dsimp only at hSw); go_simp; try with_reducible rfl)
        try simp only [Act.put, List.setIfInBounds_toArray, List.set_cons_zero, List.set_cons_succ]
        refine wpAnyH_done (by kernel_rfl) ?_ _
        go_wp2
        go_ret
        exact ⟨by rw [unhide DD]; rfl, unhide F⟩
      exact AllReadyH.nil
    exact AllReadyH.nil
  exact AllReadyH.nil
theorem digits_calls (n : Nat) : n ≤ 9223372036854775807 → ∀ w, Calls Tryz.prog 75 #[.int .i64 (n : Int)] w fun e w' => e = .returned (.string (str (Lib.decDigits n))) ∧ Below w.heap.size w w' := by
  induction n using Nat.strongRecOn with
  | ind n ih =>
    intro hn w
    by_cases h : n < 10
    · exact digits_small n h w
    · exact digits_big n h hn (ih (n / 10) (by omega) (by omega)) w
end Go.Proofs.YtagncghpfdjkmaaGreatDoor
end
