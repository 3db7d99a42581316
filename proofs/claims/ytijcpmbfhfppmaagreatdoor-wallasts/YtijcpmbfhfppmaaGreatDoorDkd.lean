/- Disk: by the document; find, Sync, Cut, Remove, Rename, Read, Sure. -/
import Derived.Test.YtijcpmbfhfppmaaGreatDoorDkc
namespace Go.Proofs.YtijcpmbfhfppmaaGreatDoor
open Go.ChangeShapes Go.WideShapes Go.ChangeAt Go.RowKit Go.Maps

section
variable {α β : Type}
def getS (k : Nm) (l : List (Nm × α)) : Option α := (l.find? (fun x => decide (x.1 = k))).map (·.2)
theorem getS_some {k : Nm} {l : List (Nm × α)} {v : α} (h : getS k l = some v) : (k, v) ∈ l := by
  unfold getS at h
  rw [Option.map_eq_some_iff] at h
  obtain ⟨x, hx, rfl⟩ := h
  have h1 := List.find?_some hx
  have h2 := List.mem_of_find?_eq_some hx
  simp only [decide_eq_true_eq] at h1
  rw [← h1]; exact h2
theorem getS_none {k : Nm} {l : List (Nm × α)} : getS k l = none ↔ k ∉ l.map (·.1) := by
  unfold getS
  rw [Option.map_eq_none_iff, List.find?_eq_none]
  simp only [List.mem_map, decide_eq_true_eq]
  constructor
  · rintro h ⟨x, hx, rfl⟩; exact h x hx rfl
  · intro h x hx e; exact h ⟨x, hx, e⟩
theorem getS_mem {k : Nm} {l : List (Nm × α)} {v : α} (hr : Rises l) (h : (k, v) ∈ l) : getS k l = some v := by
  cases e : getS k l with
  | none => exact absurd (List.mem_map.2 ⟨_, h, rfl⟩) (getS_none.1 e)
  | some u => rw [show u = v by have := hr.one (getS_some e) h rfl; simpa using this]
theorem getS_map (g : α → β) (k : Nm) (l : List (Nm × α)) : getS k (l.map (fun x => (x.1, g x.2))) = (getS k l).map g := by
  unfold getS
  rw [List.find?_map]
  simp only [Option.map_map, Function.comp_def]
theorem getS_put {k : Nm} {v : α} {l : List (Nm × α)} (hr : Rises l) (j : Nm) : getS j (putF k v l) = if j = k then some v else getS j l := by
  by_cases e : j = k
  · subst e
    rw [if_pos rfl]
    exact getS_mem (hr.put _ _) ((mem_putF hr _).2 (.inl rfl))
  · rw [if_neg e]
    cases h : getS j l with
    | some u => exact getS_mem (hr.put _ _) ((mem_putF hr _).2 (.inr ⟨getS_some h, e⟩))
    | none =>
      rw [getS_none] at h ⊢
      intro hm
      obtain ⟨x, hx, ex⟩ := List.mem_map.1 hm
      rcases (mem_putF hr x).1 hx with rfl | ⟨hx, _⟩
      · exact e ex.symm
      · exact h (List.mem_map.2 ⟨x, hx, ex⟩)
theorem getS_del {k : Nm} {l : List (Nm × α)} (hr : Rises l) (j : Nm) : getS j (delF k l) = if j = k then none else getS j l := by
  by_cases e : j = k
  · subst e
    rw [if_pos rfl, getS_none]
    intro hm
    obtain ⟨x, hx, ex⟩ := List.mem_map.1 hm
    exact ((mem_delF x).1 hx).2 ex
  · rw [if_neg e]
    cases h : getS j l with
    | some u => exact getS_mem (hr.del _) ((mem_delF _).2 ⟨getS_some h, e⟩)
    | none =>
      rw [getS_none] at h ⊢
      intro hm
      obtain ⟨x, hx, ex⟩ := List.mem_map.1 hm
      exact h (List.mem_map.2 ⟨x, ((mem_delF x).1 hx).1, ex⟩)
end
abbrev Ds := List (Nm × Sp)
def sp0 : Sp := ⟨false, [], []⟩
def nameL (k : Nm) : Bool := decide (1 ≤ k.length) && (decide (k.length ≤ 64) && k.all (fun b => stands b.toNat))
theorem nameOk_list (s : ByteArray) : nameOk s = nameL s.data.toList := by
  unfold nameOk nameL
  rw [Array.length_toList]; rfl
def usedS (ss : Ds) : Nat := (ss.map (fun x => x.2.now.length)).sum
def dSync (k : Nm) (ss : Ds) : Nat × Ds := match getS k ss with
  | none => (8, ss)
  | some s => (0, putF k ⟨true, s.now, []⟩ ss)
def dCut (k : Nm) (z : Int) (ss : Ds) : Nat × Ds := match getS k ss with
  | none => (8, ss)
  | some s => if z < 0 ∨ z > s.now.length then (2, ss) else (0, putF k ⟨s.la, s.y, s.cs ++ [(true, z.toNat, [])]⟩ ss)
def dRemove (k : Nm) (ss : Ds) : Nat × Ds := match getS k ss with
  | none => (8, ss)
  | some _ => (0, delF k ss)
def dRename (a b : Nm) (ss : Ds) : Nat × Ds := match getS a ss with
  | none => (8, ss)
  | some s => if nameL b then (0, putF b s (delF a ss)) else (14, ss)
def wrote (s : Sp) (z : Nat) (o : List Nat) : Sp := if o.length = 0 then s else ⟨s.la, s.y, s.cs ++ [(false, z, o)]⟩
def dWrite (room : Nat) (k : Nm) (z : Int) (o : List Nat) (ss : Ds) : Nat × Ds :=
  if nameL k = false then (14, ss) else
  if z < 0 ∨ z > ((getS k ss).getD sp0).now.length then (2, ss) else
  if ((getS k ss).isNone = true ∧ 16 ≤ ss.length) ∨ (o.length : Int) > 262144 - z then (6, ss) else
  if (usedS ss : Int) + max (z + o.length - ((getS k ss).getD sp0).now.length) 0 > room then (9, ss) else
  (0, putF k (wrote ((getS k ss).getD sp0) z.toNat o) ss)
/-- How a call on a disk ends: the error, the files by the document. -/
def DEnd (base d M room N : Nat) (w : World) (fs : List Fe) (r : Nat × Ds) (e : Ending) (w' : World) : Prop :=
  e = .returned (.int .i64 (r.1 : Int)) ∧ ∃ fs', DiskAt base w' d M room N fs' ∧ DGrew d M w fs w' fs' ∧ sps fs' = r.2
section
variable {base d M room N : Nat} {w w' : World} {fs fs' : List Fe}
theorem DiskAt.riseS (h : DiskAt base w d M room N fs) : Rises (sps fs) := h.rise.map (fun x : Nat × Fil => x.2.sp)
theorem sps_get (k : Nm) (fs : List Fe) : getS k (sps fs) = (getS k fs).map (fun x => x.2.sp) := getS_map (fun x : Nat × Fil => x.2.sp) k fs
theorem sps_put (k : Nm) (F : Nat) (f : Fil) (fs : List Fe) : sps (putF k (F, f) fs) = putF k f.sp (sps fs) := putF_map (fun x : Nat × Fil => x.2.sp) k (F, f) fs
theorem sps_del (k : Nm) (fs : List Fe) : sps (delF k fs) = delF k (sps fs) := delF_map (fun x : Nat × Fil => x.2.sp) k fs
theorem ptrs_put (k : Nm) (F : Nat) (f : Fil) (fs : List Fe) : ptrs (putF k (F, f) fs) = putF k F (ptrs fs) := putF_map (fun x : Nat × Fil => x.1) k (F, f) fs
theorem ptrs_del (k : Nm) (fs : List Fe) : ptrs (delF k fs) = delF k (ptrs fs) := delF_map (fun x : Nat × Fil => x.1) k fs
theorem DiskAt.nows (h : DiskAt base w d M room N fs) {x : Fe} (hx : x ∈ fs) : x.2.2.sp.now = x.2.2.b := ((h.ok x hx).now).symm
theorem DEnd.stay {r : Nat × Ds} {e : Ending} (h : DiskAt base w d M room N fs) (he : e = .returned (.int .i64 (r.1 : Int))) (hr : r.2 = sps fs) : DEnd base d M room N w fs r e w := ⟨he, fs, h, DGrew.refl, hr.symm⟩
theorem DEnd.below {r : Nat × Ds} {e : Ending} (h : DiskAt base w d M room N fs) (he : e = .returned (.int .i64 (r.1 : Int))) (hr : r.2 = sps fs) (hb : Below w.heap.size w w') : DEnd base d M room N w fs r e w' := ⟨he, fs, h.later hb, DGrew.ofBelow hb, hr.symm⟩
theorem find_yes (h : DiskAt base w d M room N fs) (s : ByteArray) (hs : s.size ≤ maxLen) (F : Nat) (f : Fil) (hx : getS s.data.toList fs = some (F, f)) :
    Calls Tryz.prog 76 #[.pointer (some ⟨d, 0, none⟩), .string s] w fun e w' => e = .returned (.tuple #[.pointer (some ⟨F, 0, none⟩), .int .i64 0]) ∧ w' = w := by
  have c1 := h.c1
  have l1 := (h.map.look_yes s hs F (List.mem_map.2 ⟨_, getS_some hx, rfl⟩)).1
  clear h hx
  go_enter Tryz.func76, Tryz.ntmps76
  go_wp2
  go_ret2
  exact ⟨rfl, rfl⟩
theorem find_no (h : DiskAt base w d M room N fs) (s : ByteArray) (hs : s.size ≤ maxLen) (hx : getS s.data.toList fs = none) :
    Calls Tryz.prog 76 #[.pointer (some ⟨d, 0, none⟩), .string s] w fun e w' => e = .returned (.tuple #[.pointer none, .int .i64 8]) ∧ w' = w := by
  have c1 := h.c1
  have l1 := h.map.look_no s hs (by rw [ptrs, List.map_map]; exact getS_none.1 hx)
  clear h hx
  go_enter Tryz.func76, Tryz.ntmps76
  go_wp2
  go_ret2
  exact ⟨rfl, rfl⟩
theorem find_nil (s : ByteArray) (w : World) :
    Calls Tryz.prog 76 #[.pointer none, .string s] w fun e w' => e = .returned (.tuple #[.pointer none, .int .i64 1]) ∧ w' = w := by
  go_enter Tryz.func76, Tryz.ntmps76
  go_wp2
  go_ret2
  exact ⟨rfl, rfl⟩
theorem dsync_calls (h : DiskAt base w d M room N fs) (hbs : base ≤ w.heap.size) (s : ByteArray) (hs : s.size ≤ maxLen) :
    Calls Tryz.prog 37 #[.pointer (some ⟨d, 0, none⟩), .string s] w (DEnd base d M room N w fs (dSync s.data.toList (sps fs))) := by
  have HS := hide (sps_get s.data.toList fs)
  cases hg : getS s.data.toList fs with
  | none =>
    have F1 := hide (find_no h s hs hg)
    have E1 := hide (DEnd.stay (w := w) (r := dSync s.data.toList (sps fs)) (e := .returned (.int .i64 8)) h (by simp [dSync, unhide HS, hg]) (by simp [dSync, unhide HS, hg]))
    clear h hbs hg HS
    go_enter Tryz.func37, Tryz.ntmps37
    go_wp2_with (go_at_call 76; refine (unhide F1).mono ?_; rintro e w' ⟨rfl, rfl⟩)
    go_ret
    exact unhide E1
  | some x =>
    obtain ⟨F, f⟩ := x
    have hm := getS_some hg
    have F1 := hide (find_yes h s hs F f hg)
    have S1 := hide (sync_calls base w F f (h.file _ hm) (by have := (h.ok _ hm).b8; simp only at this; omega) hbs)
    have E1 := hide (show ∀ w' yp, FileAt base w' F (f.synced yp) → FGrew F w f w' (f.synced yp) → DEnd base d M room N w fs (dSync s.data.toList (sps fs)) (.returned (.int .i64 0)) w' from fun w' yp hf hg' => by
      obtain ⟨k1, k2⟩ := h.upd (w' := w') hm hf hg' ((h.ok _ hm).synced yp) (Nat.le_refl _)
      have hn : f.sp.now = f.b := h.nows hm
      refine ⟨by simp [dSync, unhide HS, hg], _, k1, k2, ?_⟩
      rw [sps_put]
      simp only [dSync, unhide HS, hg, Option.map_some, hn]
      rfl)
    clear h hbs hg HS hm
    go_enter Tryz.func37, Tryz.ntmps37
    go_wp2_with (first
      | (go_at_call 76; refine (unhide F1).mono ?_; rintro e w' ⟨rfl, rfl⟩)
      | (go_at_call 81; refine (unhide S1).mono ?_; rintro e W ⟨rfl, yp, hf, hg⟩; have E2 := hide (unhide E1 W yp hf hg); clear hf hg))
    go_ret
    exact unhide E2
theorem dremove_calls (h : DiskAt base w d M room N fs) (s : ByteArray) (hs : s.size ≤ maxLen) :
    Calls Tryz.prog 97 #[.pointer (some ⟨d, 0, none⟩), .string s] w (DEnd base d M room N w fs (dRemove s.data.toList (sps fs))) := by
  have HS := hide (sps_get s.data.toList fs)
  cases hg : getS s.data.toList fs with
  | none =>
    have F1 := hide (find_no h s hs hg)
    have E1 := hide (DEnd.stay (w := w) (r := dRemove s.data.toList (sps fs)) (e := .returned (.int .i64 8)) h (by simp [dRemove, unhide HS, hg]) (by simp [dRemove, unhide HS, hg]))
    clear h hg HS
    go_enter Tryz.func97, Tryz.ntmps97
    go_wp2_with (go_at_call 76; refine (unhide F1).mono ?_; rintro e w' ⟨rfl, rfl⟩)
    go_ret
    exact unhide E1
  | some x =>
    obtain ⟨F, f⟩ := x
    have F1 := hide (find_yes h s hs F f hg)
    have c1 := h.c1
    obtain ⟨W, hd, hm, hgr, hsz⟩ := h.map.drop (h.rise.map (fun x : Nat × Fil => x.1)) s hs 0
    have hd' : ∀ ty, (Builtin.delete_ #[99, 9] ty #[.map (some M), .string s]).run Tryz.prog w = .ok (.tuple #[]) W := fun ty => hd
    have E1 := hide (show DEnd base d M room N w fs (dRemove s.data.toList (sps fs)) (.returned (.int .i64 0)) W by
      have hinj : ∀ y ∈ delF s.data.toList fs, ∀ z ∈ delF s.data.toList fs, y.1 ≠ z.1 → ∀ a ∈ fs, ∀ b ∈ fs, y.2 = a.2 → z.2 = b.2 → a.1 ≠ b.1 := by
        intro y hy z hz hne a ha b hb ea eb e
        have hy' := ((mem_delF y).1 hy).1
        have hz' := ((mem_delF z).1 hz).1
        have := h.rise.one ha hb e
        subst this
        have h1 : y.2.1 = z.2.1 := by rw [ea, eb]
        exact h.ap y hy' z hz' hne y.2.1 (.inl rfl) (by rw [h1]; exact .inl rfl)
      obtain ⟨k1, k2⟩ := h.remap (fs' := delF s.data.toList fs) hgr (by rw [ptrs_del]; exact hm) (h.rise.del _) (fun y hy => ⟨h.names y ((mem_delF y).1 hy).1, y, ((mem_delF y).1 hy).1, rfl⟩) hinj (Nat.le_trans (List.length_filter_le _ _) h.few)
      refine ⟨by simp [dRemove, unhide HS, hg], _, k1, k2, ?_⟩
      simp only [dRemove, unhide HS, hg, Option.map_some]
      exact sps_del _ _)
    clear h hg HS hgr hm hd hsz
    go_enter Tryz.func97, Tryz.ntmps97
    go_wp2_with (go_at_call 76; refine (unhide F1).mono ?_; rintro e w' ⟨rfl, rfl⟩)
    go_ret
    exact unhide E1
end
end Go.Proofs.YtijcpmbfhfppmaaGreatDoor
