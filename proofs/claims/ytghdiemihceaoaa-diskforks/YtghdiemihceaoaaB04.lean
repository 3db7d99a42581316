/- Disk: by the document; find, Sync, Cut, Remove, Rename, Read, Sure. -/
import Derived.Test.YtghdiemihceaoaaB03
section
namespace Go.Proofs.Ytghdiemihceaoaa
open Go.ChangeShapes Go.WideShapes Go.ChangeAt Go.RowKit Go.Maps

section
variable {α β : Type}
def getS (k : Nm) (l : List (Nm × α)) : Option α := (l.find? (fun x => decide (x.1 = k))).map (·.2)
theorem getS_some {k : Nm} {l : List (Nm × α)} {v : α} (h : getS k l = some v) : (k, v) ∈ l := by
  unfold getS at h
  rw [Option.map_eq_some_iff] at h
  obtain ⟨x, hx, rfl⟩ := h
  have h1 := List.find?_some hx
  have h2 := List.mem_of_find?_eq_some hx
  simp only [decide_eq_true_eq] at h1
  rw [← h1]; exact h2
theorem getS_none {k : Nm} {l : List (Nm × α)} : getS k l = none ↔ k ∉ l.map (·.1) := by
  unfold getS
  rw [Option.map_eq_none_iff, List.find?_eq_none]
  simp only [List.mem_map, decide_eq_true_eq]
  constructor
  · rintro h ⟨x, hx, rfl⟩; exact h x hx rfl
  · intro h x hx e; exact h ⟨x, hx, e⟩
theorem getS_mem {k : Nm} {l : List (Nm × α)} {v : α} (hr : Rises l) (h : (k, v) ∈ l) : getS k l = some v := by
  cases e : getS k l with
  | none => exact absurd (List.mem_map.2 ⟨_, h, rfl⟩) (getS_none.1 e)
  | some u => rw [show u = v by have := hr.one (getS_some e) h rfl; simpa using this]
theorem getS_map (g : α → β) (k : Nm) (l : List (Nm × α)) : getS k (l.map (fun x => (x.1, g x.2))) = (getS k l).map g := by
  unfold getS
  rw [List.find?_map]
  simp only [Option.map_map, Function.comp_def]
end
abbrev Ds := List (Nm × Sp)
def sp0 : Sp := ⟨false, [], []⟩
def nameL (k : Nm) : Bool := decide (1 ≤ k.length) && (decide (k.length ≤ 64) && k.all (fun b => stands b.toNat))
theorem nameOk_list (s : ByteArray) : nameOk s = nameL s.data.toList := by
  unfold nameOk nameL
  rw [Array.length_toList]; rfl
def usedS (ss : Ds) : Nat := (ss.map (fun x => x.2.now.length)).sum
def dSync (k : Nm) (ss : Ds) : Nat × Ds := match getS k ss with
  | none => (8, ss)
  | some s => (0, putF k ⟨true, s.now, []⟩ ss)
def dCut (k : Nm) (z : Int) (ss : Ds) : Nat × Ds := match getS k ss with
  | none => (8, ss)
  | some s => if z < 0 ∨ z > s.now.length then (2, ss) else (0, putF k ⟨s.la, s.y, s.cs ++ [(true, z.toNat, [])]⟩ ss)
def dRemove (k : Nm) (ss : Ds) : Nat × Ds := match getS k ss with
  | none => (8, ss)
  | some _ => (0, delF k ss)
def dRename (a b : Nm) (ss : Ds) : Nat × Ds := match getS a ss with
  | none => (8, ss)
  | some s => if nameL b then (0, putF b s (delF a ss)) else (14, ss)
def wrote (s : Sp) (z : Nat) (o : List Nat) : Sp := if o.length = 0 then s else ⟨s.la, s.y, s.cs ++ [(false, z, o)]⟩
def dWrite (room : Nat) (k : Nm) (z : Int) (o : List Nat) (ss : Ds) : Nat × Ds :=
  if nameL k = false then (14, ss) else
  if z < 0 ∨ z > ((getS k ss).getD sp0).now.length then (2, ss) else
  if ((getS k ss).isNone = true ∧ 16 ≤ ss.length) ∨ (o.length : Int) > 262144 - z then (6, ss) else
  if (usedS ss : Int) + max (z + o.length - ((getS k ss).getD sp0).now.length) 0 > room then (9, ss) else
  (0, putF k (wrote ((getS k ss).getD sp0) z.toNat o) ss)
/-- How a call on a disk ends: the error, the files by the document. -/
def DEnd (base d M room N : Nat) (w : World) (fs : List Fe) (r : Nat × Ds) (e : Ending) (w' : World) : Prop :=
  e = .returned (.int .i64 (r.1 : Int)) ∧ ∃ fs', DiskAt base w' d M room N fs' ∧ DGrew d M w fs w' fs' ∧ sps fs' = r.2
section
variable {base d M room N : Nat} {w w' : World} {fs fs' : List Fe}
theorem DiskAt.riseS (h : DiskAt base w d M room N fs) : Rises (sps fs) := h.rise.map (fun x : Nat × Fil => x.2.sp)
theorem sps_get (k : Nm) (fs : List Fe) : getS k (sps fs) = (getS k fs).map (fun x => x.2.sp) := getS_map (fun x : Nat × Fil => x.2.sp) k fs
theorem sps_put (k : Nm) (F : Nat) (f : Fil) (fs : List Fe) : sps (putF k (F, f) fs) = putF k f.sp (sps fs) := putF_map (fun x : Nat × Fil => x.2.sp) k (F, f) fs
theorem sps_del (k : Nm) (fs : List Fe) : sps (delF k fs) = delF k (sps fs) := delF_map (fun x : Nat × Fil => x.2.sp) k fs
theorem ptrs_put (k : Nm) (F : Nat) (f : Fil) (fs : List Fe) : ptrs (putF k (F, f) fs) = putF k F (ptrs fs) := putF_map (fun x : Nat × Fil => x.1) k (F, f) fs
theorem ptrs_del (k : Nm) (fs : List Fe) : ptrs (delF k fs) = delF k (ptrs fs) := delF_map (fun x : Nat × Fil => x.1) k fs
theorem DiskAt.nows (h : DiskAt base w d M room N fs) {x : Fe} (hx : x ∈ fs) : x.2.2.sp.now = x.2.2.b := ((h.ok x hx).now).symm
theorem DEnd.stay {r : Nat × Ds} {e : Ending} (h : DiskAt base w d M room N fs) (he : e = .returned (.int .i64 (r.1 : Int))) (hr : r.2 = sps fs) : DEnd base d M room N w fs r e w := ⟨he, fs, h, DGrew.refl, hr.symm⟩
theorem DEnd.below {r : Nat × Ds} {e : Ending} (h : DiskAt base w d M room N fs) (he : e = .returned (.int .i64 (r.1 : Int))) (hr : r.2 = sps fs) (hb : Below w.heap.size w w') : DEnd base d M room N w fs r e w' := ⟨he, fs, h.later hb, DGrew.ofBelow hb, hr.symm⟩
theorem find_yes (h : DiskAt base w d M room N fs) (s : ByteArray) (hs : s.size ≤ maxLen) (F : Nat) (f : Fil) (hx : getS s.data.toList fs = some (F, f)) :
    Calls Try.prog 43 #[.pointer (some ⟨d, 0, none⟩), .string s] w fun e w' => e = .returned (.tuple #[.pointer (some ⟨F, 0, none⟩), .int .i64 0]) ∧ w' = w := by
  have c1 := h.c1
  have l1 := (h.map.look_yes s hs F (List.mem_map.2 ⟨_, getS_some hx, rfl⟩)).1
  clear h hx
  go_enter Try.func43, Try.ntmps43
  go_wp2
  go_ret2
  exact ⟨rfl, rfl⟩
theorem find_no (h : DiskAt base w d M room N fs) (s : ByteArray) (hs : s.size ≤ maxLen) (hx : getS s.data.toList fs = none) :
    Calls Try.prog 43 #[.pointer (some ⟨d, 0, none⟩), .string s] w fun e w' => e = .returned (.tuple #[.pointer none, .int .i64 8]) ∧ w' = w := by
  have c1 := h.c1
  have l1 := h.map.look_no s hs (by rw [ptrs, List.map_map]; exact getS_none.1 hx)
  clear h hx
  go_enter Try.func43, Try.ntmps43
  go_wp2
  go_ret2
  exact ⟨rfl, rfl⟩
theorem dsync_calls (h : DiskAt base w d M room N fs) (hbs : base ≤ w.heap.size) (s : ByteArray) (hs : s.size ≤ maxLen) :
    Calls Try.prog 23 #[.pointer (some ⟨d, 0, none⟩), .string s] w (DEnd base d M room N w fs (dSync s.data.toList (sps fs))) := by
  have HS := hide (sps_get s.data.toList fs)
  cases hg : getS s.data.toList fs with
  | none =>
    have F1 := hide (find_no h s hs hg)
    have E1 := hide (DEnd.stay (w := w) (r := dSync s.data.toList (sps fs)) (e := .returned (.int .i64 8)) h (by simp [dSync, unhide HS, hg]) (by simp [dSync, unhide HS, hg]))
    clear h hbs hg HS
    go_enter Try.func23, Try.ntmps23
    go_wp2_with (go_at_call 43; refine (unhide F1).mono ?_; rintro e w' ⟨rfl, rfl⟩)
    go_ret
    exact unhide E1
  | some x =>
    obtain ⟨F, f⟩ := x
    have hm := getS_some hg
    have F1 := hide (find_yes h s hs F f hg)
    have S1 := hide (sync_calls base w F f (h.file _ hm) (by have := (h.ok _ hm).b8; simp only at this; omega) hbs)
    have E1 := hide (show ∀ w' yp, FileAt base w' F (f.synced yp) → FGrew F w f w' (f.synced yp) → DEnd base d M room N w fs (dSync s.data.toList (sps fs)) (.returned (.int .i64 0)) w' from fun w' yp hf hg' => by
      obtain ⟨k1, k2⟩ := h.upd (w' := w') hm hf hg' ((h.ok _ hm).synced yp) (Nat.le_refl _)
      have hn : f.sp.now = f.b := h.nows hm
      refine ⟨by simp [dSync, unhide HS, hg], _, k1, k2, ?_⟩
      rw [sps_put]
      simp only [dSync, unhide HS, hg, Option.map_some, hn]
      rfl)
    clear h hbs hg HS hm
    go_enter Try.func23, Try.ntmps23
    go_wp2_with (first
      | (go_at_call 43; refine (unhide F1).mono ?_; rintro e w' ⟨rfl, rfl⟩)
      | (go_at_call 49; refine (unhide S1).mono ?_; rintro e W ⟨rfl, yp, hf, hg⟩; have E2 := hide (unhide E1 W yp hf hg); clear hf hg))
    go_ret
    exact unhide E2
theorem dremove_calls (h : DiskAt base w d M room N fs) (s : ByteArray) (hs : s.size ≤ maxLen) :
    Calls Try.prog 21 #[.pointer (some ⟨d, 0, none⟩), .string s] w (DEnd base d M room N w fs (dRemove s.data.toList (sps fs))) := by
  have HS := hide (sps_get s.data.toList fs)
  cases hg : getS s.data.toList fs with
  | none =>
    have F1 := hide (find_no h s hs hg)
    have E1 := hide (DEnd.stay (w := w) (r := dRemove s.data.toList (sps fs)) (e := .returned (.int .i64 8)) h (by simp [dRemove, unhide HS, hg]) (by simp [dRemove, unhide HS, hg]))
    clear h hg HS
    go_enter Try.func21, Try.ntmps21
    go_wp2_with (go_at_call 43; refine (unhide F1).mono ?_; rintro e w' ⟨rfl, rfl⟩)
    go_ret
    exact unhide E1
  | some x =>
    obtain ⟨F, f⟩ := x
    have F1 := hide (find_yes h s hs F f hg)
    have c1 := h.c1
    obtain ⟨W, hd, hm, hgr, hsz⟩ := h.map.drop (h.rise.map (fun x : Nat × Fil => x.1)) s hs 0
    have hd' : ∀ ty, (Builtin.delete_ #[63, 9] ty #[.map (some M), .string s]).run Try.prog w = .ok (.tuple #[]) W := fun ty => hd
    have E1 := hide (show DEnd base d M room N w fs (dRemove s.data.toList (sps fs)) (.returned (.int .i64 0)) W by
      have hinj : ∀ y ∈ delF s.data.toList fs, ∀ z ∈ delF s.data.toList fs, y.1 ≠ z.1 → ∀ a ∈ fs, ∀ b ∈ fs, y.2 = a.2 → z.2 = b.2 → a.1 ≠ b.1 := by
        intro y hy z hz hne a ha b hb ea eb e
        have hy' := ((mem_delF y).1 hy).1
        have hz' := ((mem_delF z).1 hz).1
        have := h.rise.one ha hb e
        subst this
        have h1 : y.2.1 = z.2.1 := by rw [ea, eb]
        exact h.ap y hy' z hz' hne y.2.1 (.inl rfl) (by rw [h1]; exact .inl rfl)
      obtain ⟨k1, k2⟩ := h.remap (fs' := delF s.data.toList fs) hgr (by rw [ptrs_del]; exact hm) (h.rise.del _) (fun y hy => ⟨h.names y ((mem_delF y).1 hy).1, y, ((mem_delF y).1 hy).1, rfl⟩) hinj (Nat.le_trans (List.length_filter_le _ _) h.few)
      refine ⟨by simp [dRemove, unhide HS, hg], _, k1, k2, ?_⟩
      simp only [dRemove, unhide HS, hg, Option.map_some]
      exact sps_del _ _)
    clear h hg HS hgr hm hd hsz
    go_enter Try.func21, Try.ntmps21
    go_wp2_with (go_at_call 43; refine (unhide F1).mono ?_; rintro e w' ⟨rfl, rfl⟩)
    go_ret
    exact unhide E1
end
end Go.Proofs.Ytghdiemihceaoaa
end
/- Disk: Cut, Rename, Read, Sure, New. -/
section
namespace Go.Proofs.Ytghdiemihceaoaa
open Go.ChangeShapes Go.WideShapes Go.ChangeAt Go.RowKit Go.Maps

section
variable {base d M room N : Nat} {w w' : World} {fs fs' : List Fe}
theorem dcut_calls (h : DiskAt base w d M room N fs) (hbs : base ≤ w.heap.size) (hN : N ≤ 1000000) (s : ByteArray) (hs : s.size ≤ maxLen) (z : Int) :
    Calls Try.prog 24 #[.pointer (some ⟨d, 0, none⟩), .string s, .int .i64 z] w (DEnd base d M room (N + 1) w fs (dCut s.data.toList z (sps fs))) := by
  have HS := hide (sps_get s.data.toList fs)
  cases hg : getS s.data.toList fs with
  | none =>
    have F1 := hide (find_no h s hs hg)
    have E1 := hide (DEnd.stay (w := w) (r := dCut s.data.toList z (sps fs)) (e := .returned (.int .i64 8)) (h.mono (Nat.le_succ N)) (by simp [dCut, unhide HS, hg]) (by simp [dCut, unhide HS, hg]))
    clear h hbs hg HS
    go_enter Try.func24, Try.ntmps24
    go_wp2_with (go_at_call 43; refine (unhide F1).mono ?_; rintro e w' ⟨rfl, rfl⟩)
    go_ret
    exact unhide E1
  | some x =>
    obtain ⟨F, f⟩ := x
    have hm := getS_some hg
    have F1 := hide (find_yes h s hs F f hg)
    have hn : f.sp.now = f.b := h.nows hm
    have c0 := (h.file _ hm).c0
    simp only at c0
    by_cases hz : z < 0 ∨ z > f.b.length
    · have hdc : dCut s.data.toList z (sps fs) = (2, sps fs) := by
        simp only [dCut, unhide HS, hg, Option.map_some, hn]
        rw [if_pos hz]
      have E1 := hide (DEnd.stay (w := w) (r := dCut s.data.toList z (sps fs)) (e := .returned (.int .i64 2)) (h.mono (Nat.le_succ N)) (by rw [hdc]; rfl) (by rw [hdc]))
      clear h hbs hg HS hm hn hdc
      generalize f.b.length = n at *
      by_cases hz0 : z < 0
      · clear hz
        go_enter Try.func24, Try.ntmps24
        go_wp2_with (go_at_call 43; refine (unhide F1).mono ?_; rintro e w' ⟨rfl, rfl⟩)
        go_ret
        exact unhide E1
      · have hz1 : (n : Int) < z := by omega
        clear hz
        go_enter Try.func24, Try.ntmps24
        go_wp2_with (go_at_call 43; refine (unhide F1).mono ?_; rintro e w' ⟨rfl, rfl⟩)
        go_ret
        exact unhide E1
    · obtain ⟨k, rfl⟩ : ∃ k : Nat, z = (k : Int) := ⟨z.toNat, by omega⟩
      have hk : k ≤ f.b.length := by omega
      have S1 := hide (cut_calls base w F f (h.file _ hm) k hk (by have := (h.ok _ hm).few; simp only at this; omega) hbs)
      have E1 := hide (show ∀ w' cp cc, FileAt base w' F ((f.shorter k).more cp cc ((true, k, []), (none, 0))) → FGrew F w f w' ((f.shorter k).more cp cc ((true, k, []), (none, 0))) → DEnd base d M room (N + 1) w fs (dCut s.data.toList (k : Int) (sps fs)) (.returned (.int .i64 0)) w' from fun w' cp cc hf hg' => by
        obtain ⟨k1, k2⟩ := h.upd (w' := w') hm hf hg' ((h.ok _ hm).cut k hk cp cc) (Nat.le_succ N)
        have hdc : dCut s.data.toList (k : Int) (sps fs) = (0, putF s.data.toList ⟨f.sp.la, f.sp.y, f.sp.cs ++ [(true, k, [])]⟩ (sps fs)) := by
          simp only [dCut, unhide HS, hg, Option.map_some, hn]
          rw [if_neg hz]; rfl
        rw [hdc]
        refine ⟨rfl, _, k1, k2, ?_⟩
        rw [sps_put]
        simp [Fil.sp, Fil.more, Fil.shorter])
      have hz0 : ¬ ((k : Int) < 0) := by omega
      have hz1 : ¬ ((f.b.length : Int) < (k : Int)) := by omega
      clear h hbs hg HS hm hn hz hk
      generalize f.b.length = n at *
      go_enter Try.func24, Try.ntmps24
      go_wp2_with (first
        | (go_at_call 43; refine (unhide F1).mono ?_; rintro e w' ⟨rfl, rfl⟩)
        | (go_at_call 50; refine (unhide S1).mono ?_; rintro e W ⟨rfl, cp, cc, hf, hg⟩; have E2 := hide (unhide E1 W cp cc hf hg); clear hf hg))
      go_ret
      exact unhide E2
theorem dread_yes (h : DiskAt base w d M room N fs) (s : ByteArray) (hs : s.size ≤ maxLen) (F : Nat) (f : Fil) (hg : getS s.data.toList fs = some (F, f)) :
    Calls Try.prog 17 #[.pointer (some ⟨d, 0, none⟩), .string s] w fun e w' => ∃ sp n, e = .returned (.tuple #[.slice sp n n, .int .i64 0]) ∧ f.sp.now.length = n ∧ n ≤ 262144 ∧ Bx w.heap.size w' sp n f.sp.now ∧ Below w.heap.size w w' := by
  have hm := getS_some hg
  have F1 := hide (find_yes h s hs F f hg)
  rw [show f.sp.now = f.b from h.nows hm]
  have c0 := (h.file _ hm).c0
  simp only at c0
  have h8 : f.b.length ≤ 262144 := (h.ok _ hm).b8
  have S1 := hide (fresh_calls f.bp f.b.length f.bc f.b w rfl (by omega) (h.file _ hm).bytes.bytes (h.file _ hm).bytes.nil0)
  have HN := hide (rfl : f.b.length = f.b.length)
  clear h hg hm
  generalize hn : f.b.length = n at c0 h8 S1 HN
  have HN2 := hide hn
  clear hn HN
  go_enter Try.func17, Try.ntmps17
  go_wp2_with (first
    | (go_at_call 43; refine (unhide F1).mono ?_; rintro e w' ⟨rfl, rfl⟩)
    | (go_at_call 44; refine (unhide S1).mono ?_; rintro e W ⟨sp, rfl, hx, hb⟩; have X1 := hide hx; have B1 := hide hb; clear hx hb))
  go_ret2
  exact ⟨sp, n, rfl, by first | exact unhide HN2 | rfl, h8, unhide X1, unhide B1⟩
theorem dread_no (h : DiskAt base w d M room N fs) (s : ByteArray) (hs : s.size ≤ maxLen) (hg : getS s.data.toList fs = none) :
    Calls Try.prog 17 #[.pointer (some ⟨d, 0, none⟩), .string s] w fun e w' => e = .returned (.tuple #[.slice none 0 0, .int .i64 8]) ∧ w' = w := by
  have F1 := hide (find_no h s hs hg)
  clear h hg
  go_enter Try.func17, Try.ntmps17
  go_wp2_with (go_at_call 43; refine (unhide F1).mono ?_; rintro e w' ⟨rfl, rfl⟩)
  go_ret2
  exact ⟨rfl, rfl⟩
theorem dsure_yes (h : DiskAt base w d M room N fs) (s : ByteArray) (hs : s.size ≤ maxLen) (F : Nat) (f : Fil) (hg : getS s.data.toList fs = some (F, f)) (hla : f.sp.la = true) :
    Calls Try.prog 28 #[.pointer (some ⟨d, 0, none⟩), .string s] w fun e w' => ∃ sp n, e = .returned (.tuple #[.slice sp n n, .int .i64 0]) ∧ f.sp.y.length = n ∧ n ≤ 262144 ∧ Bx w.heap.size w' sp n f.sp.y ∧ Below w.heap.size w w' := by
  have hm := getS_some hg
  have F1 := hide (find_yes h s hs F f hg)
  have hla2 : f.la = true := hla
  have c1 := (h.file _ hm).c1
  have c2 := (h.file _ hm).c2
  simp only at c1 c2
  rw [hla2] at c2
  have h8 : f.y.length ≤ 262144 := (h.ok _ hm).y8
  have S1 := hide (fresh_calls f.yp f.y.length f.yc f.y w rfl (by omega) (h.file _ hm).sure.bytes (h.file _ hm).sure.nil0)
  have HN := hide (rfl : f.y.length = f.y.length)
  clear h hg hm hla hla2
  show Calls _ _ _ _ fun e w' => ∃ sp n, e = .returned (.tuple #[.slice sp n n, .int .i64 0]) ∧ f.y.length = n ∧ n ≤ 262144 ∧ Bx w.heap.size w' sp n f.y ∧ Below w.heap.size w w'
  generalize hn : f.y.length = n at c1 h8 S1 HN
  have HN2 := hide hn
  clear hn HN
  go_enter Try.func28, Try.ntmps28
  go_wp2_with (first
    | (go_at_call 43; refine (unhide F1).mono ?_; rintro e w' ⟨rfl, rfl⟩)
    | (go_at_call 44; refine (unhide S1).mono ?_; rintro e W ⟨sp, rfl, hx, hb⟩; have X1 := hide hx; have B1 := hide hb; clear hx hb))
  go_ret2
  exact ⟨sp, n, rfl, by first | exact unhide HN2 | rfl, h8, unhide X1, unhide B1⟩
theorem dsure_not (h : DiskAt base w d M room N fs) (s : ByteArray) (hs : s.size ≤ maxLen) (F : Nat) (f : Fil) (hg : getS s.data.toList fs = some (F, f)) (hla : f.sp.la = false) :
    Calls Try.prog 28 #[.pointer (some ⟨d, 0, none⟩), .string s] w fun e w' => e = .returned (.tuple #[.slice none 0 0, .int .i64 8]) ∧ w' = w := by
  have hm := getS_some hg
  have F1 := hide (find_yes h s hs F f hg)
  have hla2 : f.la = false := hla
  have c2 := (h.file _ hm).c2
  simp only at c2
  rw [hla2] at c2
  clear h hg hm hla hla2
  go_enter Try.func28, Try.ntmps28
  go_wp2_with (go_at_call 43; refine (unhide F1).mono ?_; rintro e w' ⟨rfl, rfl⟩)
  go_ret2
  exact ⟨rfl, rfl⟩
theorem DiskAt.new (w : World) (hb : base ≤ w.heap.size) (room : Nat) : DiskAt base ((w.alloc (.map #[] 0)).alloc (.cells #[.int .i64 (room : Int), .map (some w.heap.size)] 65)) (w.heap.size + 1) w.heap.size room 0 [] := by
  have hs : (w.alloc (.map #[] 0)).heap.size = w.heap.size + 1 := by simp
  have b1 : Below (w.alloc (.map #[] 0)).heap.size (w.alloc (.map #[] 0)) ((w.alloc (.map #[] 0)).alloc (.cells #[.int .i64 (room : Int), .map (some w.heap.size)] 65)) := (Below.refl _ _).alloc (Nat.le_refl _) _
  refine ⟨?_, (MapAt.made w).later b1, List.Pairwise.nil, by simp, by simp, by omega, hb, by simp, by simp, by simp, by simp⟩
  rw [← hs]
  exact heap_new _ _
theorem dnew_calls (w : World) (hb : base ≤ w.heap.size) (z : Int) : Calls Try.prog 12 #[.int .i64 z] w fun e w' => e = .returned (.pointer (some ⟨w.heap.size + 1, 0, none⟩)) ∧ DiskAt base w' (w.heap.size + 1) w.heap.size z.toNat 0 [] ∧ Below w.heap.size w w' := by
  have HD := hide (DiskAt.new (base := base) w hb z.toNat)
  have HB := hide (show Below w.heap.size w ((w.alloc (.map #[] 0)).alloc (.cells #[.int .i64 (z.toNat : Int), .map (some w.heap.size)] 65)) from ((Below.refl _ _).alloc (Nat.le_refl _) _).alloc (by simp) _)
  have hmk := @run_makeMap Try.prog
  have hmx : max z 0 = (z.toNat : Int) := by omega
  generalize z.toNat = r at *
  clear hb
  go_enter Try.func12, Try.ntmps12
  go_wp2
  go_ret
  exact ⟨rfl, unhide HD, unhide HB⟩
end
end Go.Proofs.Ytghdiemihceaoaa
end
/- Disk: Used, Rename. -/
section
namespace Go.Proofs.Ytghdiemihceaoaa
open Go.ChangeShapes Go.WideShapes Go.ChangeAt Go.RowKit Go.Maps

theorem enter_used (c : Array Value) (w : World) : (callFunc 58 c).run Try.prog w = .ok (.enter 58 c) w := by
  simp [callFunc, go_sem, Try.func58]
  rw [if_neg (by decide +kernel), if_neg (fun h => by cases h)]
set_option maxHeartbeats 4000000 in
theorem used1_calls (s : ByteArray) (F U : Nat) (bp : Option Addr) (n c u : Nat) (w : World) (hU : w.heap[U]? = some (.cells #[.int .i64 (u : Int)] 3 (0, 0))) (hF : w.cell? ⟨F, 0, none⟩ = some (.slice bp n c)) (hn : u + n ≤ 4611686018427387904) :
    Calls Try.prog 58 #[.string s, .pointer (some ⟨F, 0, none⟩), .pointer (some ⟨U, 0, none⟩)] w fun e w' => e = .returned (.tuple #[]) ∧ w'.heap[U]? = some (.cells #[.int .i64 ((u + n : Nat) : Int)] 3 (0, 0)) ∧ w.grownBy w' (some U) ∧ w'.heap.size = w.heap.size := by
  have c0 := fcell hU 0 (.int .i64 (u : Int)) rfl
  have z0 := ffree hU 0
  have hw : IntKind.i64.wrap ((u : Int) + (n : Int)) = (u : Int) + (n : Int) := by rw [IntKind.wrap_i64]; omega
  have HU := hide hU
  clear hU
  go_enter Try.func58, Try.ntmps58
  go_region
  all_goals
    go_wp2
    go_end0
    have hg := grown_set w U 0 (.int .i64 ((u : Int) + (n : Int)))
    exact ⟨rfl, by rw [show ((u + n : Nat) : Int) = (u : Int) + (n : Int) by omega]; exact heap_setCell_same w U 0 #[.int .i64 (u : Int)] 3 (.int .i64 ((u : Int) + (n : Int))) (unhide HU), ⟨hg.os, hg.tape, hg.output, hg.size, hg.block⟩, by simp [World.setCell]⟩
def usedF (fs : List Fe) : Nat := (fs.map (fun x => x.2.2.b.length)).sum
theorem usedF_le : ∀ (fs : List Fe), (∀ x ∈ fs, x.2.2.b.length ≤ 262144) → usedF fs ≤ fs.length * 262144
  | [], _ => by simp [usedF]
  | x :: r, h => by
    have h1 := usedF_le r (fun y hy => h y (List.mem_cons_of_mem _ hy))
    have h2 := h x List.mem_cons_self
    simp only [usedF, List.map_cons, List.sum_cons, List.length_cons] at h1 ⊢
    omega
theorem usedF_take (fs : List Fe) (i : Nat) (hi : i < fs.length) : usedF (fs.take (i + 1)) = usedF (fs.take i) + fs[i].2.2.b.length := by
  rw [List.take_succ_eq_append_getElem hi]
  simp only [usedF, List.map_append, List.map_cons, List.map_nil, List.sum_append_nat, List.sum_cons, List.sum_nil, Nat.add_zero]
theorem usedF_take_le (fs : List Fe) (i : Nat) : usedF (fs.take i) ≤ usedF fs := by
  have : usedF fs = usedF (fs.take i) + usedF (fs.drop i) := by
    unfold usedF
    rw [← List.sum_append_nat, ← List.map_append, List.take_append_drop]
  omega
section
variable {base d M room N : Nat} {w w' : World} {fs fs' : List Fe}
theorem DiskAt.usedS (h : DiskAt base w d M room N fs) : usedS (sps fs) = usedF fs := by
  unfold Go.Proofs.Ytghdiemihceaoaa.usedS usedF sps
  rw [List.map_map]
  congr 1
  exact List.map_congr_left (fun x hx => by show x.2.2.sp.now.length = _; rw [h.nows hx])
theorem DiskAt.used_le (h : DiskAt base w d M room N fs) : usedF fs ≤ 4194304 := by
  have h1 := usedF_le fs (fun x hx => (h.ok x hx).b8)
  have := h.few
  omega
/-- A world in which nothing of the disk has changed. -/
theorem DiskAt.still (h : DiskAt base w d M room N fs) (hs : ∀ g, g < w.heap.size → w'.heap[g]? = w.heap[g]?) : DiskAt base w' d M room N fs := h.same (fun g hg _ => hs g hg)
theorem DiskAt.lookAt (h : DiskAt base w d M room N fs) (i : Nat) (hi : i < fs.length) : (Instr.lookup 63 (.map (some M)) (.string (str fs[i].1)) false).run Try.prog w = .ok (.pointer (some ⟨fs[i].2.1, 0, none⟩)) w :=
  (h.map.look_yes (str fs[i].1) (by rw [str_size]; have := h.names _ (List.getElem_mem hi); simp only [maxLen]; omega) fs[i].2.1 (List.mem_map.2 ⟨fs[i], List.getElem_mem hi, rfl⟩)).2
theorem dused_calls (h : DiskAt base w d M room N fs) : Calls Try.prog 34 #[.pointer (some ⟨d, 0, none⟩)] w fun e w' => e = .returned (.int .i64 (usedS (sps fs) : Int)) ∧ Below w.heap.size w w' := by
  have b0 : Below w.heap.size w (w.alloc (.cells #[.int .i64 0] 3)) := (Below.refl _ _).alloc (Nat.le_refl _) _
  have hW : (w.alloc (.cells #[.int .i64 0] 3)).heap.size = w.heap.size + 1 := by simp
  have hU0 := heap_new w (.cells #[.int .i64 0] 3)
  have EC := hide (each_calls base d M room N (w.alloc (.cells #[.int .i64 0] 3)) fs (h.later b0) 58 #[.pointer (some ⟨w.heap.size, 0, none⟩)] enter_used
    (fun w' => w'.heap[w.heap.size]? = some (.cells #[.int .i64 (usedS (sps fs) : Int)] 3 (0, 0)) ∧ Below w.heap.size w w') (fun W0 hb => by
      have hbW : Below w.heap.size w W0 := b0.trans (hb.mono b0.size)
      refine ⟨fun i w1 => w1.heap[w.heap.size]? = some (.cells #[.int .i64 (usedF (fs.take i) : Int)] 3 (0, 0)) ∧ W0.grownBy w1 (some w.heap.size), ⟨?_, ?_⟩, ?_, ?_, ?_⟩
      · rw [hb.block w.heap.size (by omega)]
        exact hU0
      · exact grown_refl _ _
      · rintro i w1 ⟨_, hg⟩ g hg1 hg2
        exact hg.block g hg2 (fun e => by have := Option.some.inj e; omega)
      · rintro i hi w1 ⟨hU, hg⟩
        have hs : ∀ g, g < w.heap.size → w1.heap[g]? = w.heap[g]? := fun g hlt => (hg.block g (Nat.lt_of_lt_of_le hlt hbW.size) (fun e => by have := Option.some.inj e; omega)).trans (hbW.block g hlt)
        have h1 := h.still hs
        refine ⟨h1.c1, h1.lookAt i hi, ?_⟩
        have hx := h1.file _ (List.getElem_mem hi)
        have hle := usedF_take_le fs (i + 1)
        have hu := h.used_le
        rw [usedF_take fs i hi] at hle
        refine (used1_calls (str fs[i].1) fs[i].2.1 w.heap.size _ _ _ _ w1 hU hx.c0 (by omega)).mono ?_
        rintro e w2 ⟨rfl, hU2, hg2, _⟩
        refine ⟨rfl, ?_, hg.trans hg2⟩
        rw [usedF_take fs i hi]
        exact hU2
      · rintro w1 ⟨hU, hg⟩
        rw [List.take_length] at hU
        refine ⟨by rw [h.usedS]; exact hU, ?_⟩
        exact hbW.grown hg hbW.size (fun g e => by have := Option.some.inj e; omega)))
  clear h b0 hW hU0
  go_enter Try.func34, Try.ntmps34
  go_wp2_with (go_at_call 51; refine (unhide EC).mono ?_; rintro e W ⟨rfl, hU, hB⟩; have c0 := fcell hU 0 _ rfl; have HB := hide hB; clear hU hB)
  go_ret
  exact ⟨rfl, unhide HB⟩
end
end Go.Proofs.Ytghdiemihceaoaa
end
/- Disk: a file comes to the map. -/
section
namespace Go.Proofs.Ytghdiemihceaoaa
open Go.ChangeShapes Go.WideShapes Go.ChangeAt Go.RowKit Go.Maps

section
variable {base d M room N : Nat} {w w' w0 : World} {fs fs' : List Fe}
theorem DiskAt.drew (h : DiskAt base w d M room N fs) : DiskAt base w.drew d M room N fs := h.still (fun _ _ => rfl)
theorem DiskAt.inj (h : DiskAt base w d M room N fs) {y z a b : Fe} (hy : y ∈ fs) (hz : z ∈ fs) (hne : y.1 ≠ z.1) (ha : a ∈ fs) (hb : b ∈ fs) (ea : y.2 = a.2) (eb : z.2 = b.2) : a.1 ≠ b.1 := by
  intro e
  have := h.rise.one ha hb e
  subst this
  have h1 : y.2.1 = z.2.1 := by rw [ea, eb]
  exact h.ap y hy z hz hne y.2.1 (.inl rfl) (by rw [h1]; exact .inl rfl)
theorem DiskAt.restore (h : DiskAt base w d M room N fs) (x : Fe) (hx : x ∈ fs) (hgr : w.grownBy w' (some M)) (hm : MapAt w' M (putF x.1 x.2.1 (ptrs fs))) : DiskAt base w' d M room N fs ∧ DGrew d M w fs w' fs := by
  rw [putF_same (h.rise.map (fun x : Nat × Fil => x.1)) (List.mem_map.2 ⟨x, hx, rfl⟩)] at hm
  exact h.remap hgr hm h.rise (fun y hy => ⟨h.names y hy, y, hy, rfl⟩) (fun y hy z hz hne a ha b hb ea eb => h.inj hy hz hne ha hb ea eb) h.few
/-- A new file comes to it. -/
theorem DiskAt.add (h : DiskAt base w d M room N fs) (k : Nm) (hk : k.length ≤ 64) (hnew : getS k fs = none) (F : Nat) (f : Fil) (hf : FileAt base w F f) (hok : FOk N f) (hfew : fs.length < 16)
    (hmut : ∀ g, f.mut F g → w0.heap.size ≤ g) (hred : ∀ g, f.red g → w0.heap.size ≤ g) (h0 : ∀ g, DMut d M fs g ∨ DRed fs g → g < w0.heap.size) (hb0 : Below w0.heap.size w0 w) (hgr : w.grownBy w' (some M)) (hm : MapAt w' M (putF k F (ptrs fs))) :
    DiskAt base w' d M room N (putF k (F, f) fs) ∧ DGrew d M w0 fs w' (putF k (F, f) fs) := by
  have hkn := getS_none.1 hnew
  have hmem := fun (y : Fe) => mem_putF (k := k) (v := (F, f)) h.rise y
  have hkk : ∀ g, g < w.heap.size → g ≠ M → w'.heap[g]? = w.heap[g]? := fun g hlt hne => hgr.block g hlt (fun e => hne (Option.some.inj e))
  have hMlt : M < w0.heap.size := h0 M (.inl (.inr (.inl rfl)))
  have hxm : ∀ x ∈ fs, ∀ g, x.mut g → g < w0.heap.size := fun x hx g hg => h0 g (.inl (.inr (.inr ⟨x, hx, hg⟩)))
  have hxr : ∀ x ∈ fs, ∀ g, x.red g → g < w0.heap.size := fun x hx g hg => h0 g (.inr ⟨x, hx, hg⟩)
  refine ⟨⟨(hkk d h.ltD h.dm).trans h.box, by rw [ptrs_put]; exact hm, h.rise.put _ _, ?_, ?_, h.lowD, h.lowM, ?_, ?_, ?_, ?_⟩, ⟨hgr.os.trans hb0.os, hgr.tape.trans hb0.tape, hgr.output.trans hb0.output, Nat.le_trans hb0.size hgr.size, ?_, ?_, ?_⟩⟩
  · intro y hy
    rcases (hmem y).1 hy with rfl | ⟨hy, _⟩
    · refine hf.same (fun g hg => ?_)
      rcases hg with hg | hg
      · exact hkk g (hf.mut_lt hg).2 (fun e => by have := hmut g hg; omega)
      · exact hkk g (hf.red_lt hg).2.1 (fun e => by have := hred g hg; omega)
    · refine (h.file y hy).same (fun g hg => ?_)
      rcases hg with hg | hg
      · exact hkk g ((h.file y hy).mut_lt hg).2 (fun e => (h.notM hy).1 (e ▸ hg))
      · exact hkk g ((h.file y hy).red_lt hg).2.1 (fun e => (h.notM hy).2 (e ▸ hg))
  · intro y hy
    rcases (hmem y).1 hy with rfl | ⟨hy, _⟩
    · exact hok
    · exact h.ok y hy
  · intro y hy z hz hne g hyg hzg
    rcases (hmem y).1 hy with rfl | ⟨hy, _⟩ <;> rcases (hmem z).1 hz with rfl | ⟨hz, _⟩
    · exact hne rfl
    · have h1 := hmut g hyg
      have h2 := hxm z hz g hzg
      omega
    · have h1 := hmut g hzg
      have h2 := hxm y hy g hyg
      omega
    · exact h.ap y hy z hz hne g hyg hzg
  · intro y hy z hz g hyg hzg
    rcases (hmem y).1 hy with rfl | ⟨hy, _⟩ <;> rcases (hmem z).1 hz with rfl | ⟨hz, _⟩
    · exact hf.self hyg hzg
    · have h1 := hmut g hyg
      have h2 := hxr z hz g hzg
      omega
    · have h1 := hred g hzg
      have h2 := hxm y hy g hyg
      omega
    · exact h.rd y hy z hz g hyg hzg
  · rw [putF_length h.rise, if_neg hkn]
    omega
  · intro y hy
    rcases (hmem y).1 hy with rfl | ⟨hy, _⟩
    · exact hk
    · exact h.names y hy
  · intro i hi hn
    exact (hkk i (Nat.lt_of_lt_of_le hi hb0.size) (fun e => hn (.inr (.inl e)))).trans (hb0.block i hi)
  · intro g hg
    rcases hg with e | e | ⟨y, hy, hg⟩
    · exact .inl (.inl e)
    · exact .inl (.inr (.inl e))
    · rcases (hmem y).1 hy with rfl | ⟨hy, _⟩
      · exact .inr (hmut g hg)
      · exact .inl (.inr (.inr ⟨y, hy, hg⟩))
  · rintro g ⟨y, hy, hg⟩
    rcases (hmem y).1 hy with rfl | ⟨hy, _⟩
    · exact .inr (hred g hg)
    · exact .inl ⟨y, hy, hg⟩
theorem FileAt.zero (w : World) (hb : base ≤ w.heap.size) : FileAt base (w.alloc (.cells #[.slice none 0 0, .slice none 0 0, .bool false, .slice none 0 0] 75)) w.heap.size fil0 :=
  ⟨heap_new w _, Bx.ofNil _ _, Bx.ofNil _ _, OwnC.ofNil _ _, hb, fun g hg => (by cases hg), fun x hx => (by simp [fil0] at hx)⟩
theorem fil0_mut (F g : Nat) : fil0.mut F g ↔ g = F := by
  constructor
  · rintro (h | h | h | h)
    · exact h
    · cases h
    · cases h
    · cases h
  · exact .inl
theorem fil0_red (g : Nat) : ¬ fil0.red g := by rintro ⟨x, hx, _⟩; simp [fil0] at hx
set_option maxRecDepth 20000 in
set_option maxHeartbeats 4000000 in
theorem drename_calls (h : DiskAt base w d M room N fs) (a b : ByteArray) (ha : a.size ≤ maxLen) (hb : b.size ≤ maxLen) :
    Calls Try.prog 25 #[.pointer (some ⟨d, 0, none⟩), .string a, .string b] w (DEnd base d M room N w fs (dRename a.data.toList b.data.toList (sps fs))) := by
  have HS := hide (sps_get a.data.toList fs)
  cases hg : getS a.data.toList fs with
  | none =>
    have F1 := hide (find_no h a ha hg)
    have E1 := hide (DEnd.stay (w := w) (r := dRename a.data.toList b.data.toList (sps fs)) (e := .returned (.int .i64 8)) h (by simp [dRename, unhide HS, hg]) (by simp [dRename, unhide HS, hg]))
    clear h hg HS
    go_enter Try.func25, Try.ntmps25
    go_wp2_with (go_at_call 43; refine (unhide F1).mono ?_; rintro e w' ⟨rfl, rfl⟩)
    go_ret
    exact unhide E1
  | some x =>
    obtain ⟨F, f⟩ := x
    have F1 := hide (find_yes h a ha F f hg)
    have hnl := nameOk_list b
    cases hnm : nameOk b with
    | false =>
      have E1 := hide (fun w' (hb : Below w.heap.size w w') => DEnd.below (w := w) (r := dRename a.data.toList b.data.toList (sps fs)) (e := .returned (.int .i64 14)) h (by simp [dRename, unhide HS, hg, ← hnl, hnm]) (by simp [dRename, unhide HS, hg, ← hnl, hnm]) hb)
      clear h hg HS hnl
      go_enter Try.func25, Try.ntmps25
      go_wp2_with (first
        | (go_at_call 43; refine (unhide F1).mono ?_; rintro e w' ⟨rfl, rfl⟩)
        | (go_at_call 47; refine (isName_calls b _).mono ?_; rintro e W ⟨rfl, b1⟩; have E2 := hide (unhide E1 W b1); clear b1))
      go_ret
      exact unhide E2
    | true =>
      have hb64 : b.data.toList.length ≤ 64 := by
        have := hnm
        simp only [nameOk, Bool.and_eq_true, decide_eq_true_eq] at this
        rw [Array.length_toList]; exact this.2.1
      have E1 := hide (show ∀ W, Below w.heap.size w W → W.cell? ⟨d, 1, none⟩ = some (.map (some M)) ∧ ∃ W1 W2, (∀ ty, (Builtin.delete_ #[63, 9] ty #[.map (some M), .string a]).run Try.prog W = .ok (.tuple #[]) W1) ∧ W1.cell? ⟨d, 1, none⟩ = some (.map (some M)) ∧ (Instr.mapUpdate 63 (.map (some M)) (.string b) (.pointer (some ⟨F, 0, none⟩))).run Try.prog W1 = .ok () W2 ∧ DEnd base d M room N w fs (dRename a.data.toList b.data.toList (sps fs)) (.returned (.int .i64 0)) W2 from fun W bW => by
        have h1 := h.later bW
        obtain ⟨W1, hd, hm1, hg1, _⟩ := h1.map.drop (h1.rise.map (fun x : Nat × Fil => x.1)) a ha 0
        obtain ⟨W2, hu, hm2, hg2, _⟩ := hm1.store ((h1.rise.map (fun x : Nat × Fil => x.1)).del _) b hb F (by
          have := List.length_filter_le (fun x : Nm × Nat => decide (x.1 ≠ a.data.toList)) (ptrs fs)
          have h3 := h.few
          simp only [delF, ptrs, List.length_map] at this ⊢
          omega)
        refine ⟨h1.c1, W1, W2, fun _ => hd, ?_, hu, ?_⟩
        · exact fcell ((hg1.block d h1.ltD (fun e => h1.dm (Option.some.inj e))).trans h1.box) 1 _ rfl
        · have hmx := getS_some hg
          have hmem := fun (y : Fe) => mem_putF (k := b.data.toList) (v := (F, f)) (h.rise.del a.data.toList) y
          have hx0 : ∀ y ∈ putF b.data.toList (F, f) (delF a.data.toList fs), ∃ x ∈ fs, y.2 = x.2 := fun y hy => by
            rcases (hmem y).1 hy with rfl | ⟨hy, _⟩
            · exact ⟨_, hmx, rfl⟩
            · exact ⟨y, ((mem_delF y).1 hy).1, rfl⟩
          obtain ⟨k1, k2⟩ := h1.remap (fs' := putF b.data.toList (F, f) (delF a.data.toList fs)) (hg1.trans hg2) (by rw [ptrs_put, ptrs_del]; exact hm2) ((h.rise.del _).put _ _) (fun y hy => ⟨by
              rcases (hmem y).1 hy with rfl | ⟨hy, _⟩
              · exact hb64
              · exact h.names y ((mem_delF y).1 hy).1, hx0 y hy⟩) (fun y hy z hz hne p hp q hq ep eq e => by
              have := h.rise.one hp hq e
              subst this
              have h12 : y.2.1 = z.2.1 := by rw [ep, eq]
              rcases (hmem y).1 hy with rfl | ⟨hy, hye⟩ <;> rcases (hmem z).1 hz with rfl | ⟨hz, hze⟩
              · exact hne rfl
              · obtain ⟨hz1, hz2⟩ := (mem_delF z).1 hz
                exact h.ap _ hmx z hz1 (fun e => hz2 e.symm) F (.inl rfl) (by have : F = z.2.1 := h12; rw [this]; exact .inl rfl)
              · obtain ⟨hy1, hy2⟩ := (mem_delF y).1 hy
                exact h.ap y hy1 _ hmx hy2 F (by have : y.2.1 = F := h12; rw [← this]; exact .inl rfl) (.inl rfl)
              · exact h.ap y ((mem_delF y).1 hy).1 z ((mem_delF z).1 hz).1 hne y.2.1 (.inl rfl) (by rw [h12]; exact .inl rfl)) (by
              have h2 := delF_length (k := a.data.toList) h.rise
              rw [if_pos (List.mem_map.2 ⟨_, hmx, rfl⟩)] at h2
              rw [putF_length (h.rise.del _)]
              have := h.few
              split <;> omega)
          have hdr : dRename a.data.toList b.data.toList (sps fs) = (0, putF b.data.toList f.sp (delF a.data.toList (sps fs))) := by
            simp [dRename, unhide HS, hg, ← hnl, hnm]
          rw [hdr]
          refine ⟨rfl, _, k1, (DGrew.ofBelow bW).trans k2, ?_⟩
          rw [sps_put, sps_del])
      clear h hg HS hnl
      go_enter Try.func25, Try.ntmps25
      go_wp2_with (first
        | (go_at_call 43; refine (unhide F1).mono ?_; rintro e w' ⟨rfl, rfl⟩)
        | (go_at_call 47; refine (isName_calls b _).mono ?_; rintro e W ⟨rfl, b1⟩; obtain ⟨q1, W1, W2, q2, q3, q4, q5⟩ := unhide E1 W b1; have Q5 := hide q5; clear b1 q5))
      go_ret
      exact unhide Q5
end
end Go.Proofs.Ytghdiemihceaoaa
end
