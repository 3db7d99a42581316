/- Disk: rows of named things, by their names' order; a map of names to files in memory. -/
import Derived.Test.YtijcpmbfhfppmaaGreatDoorDk10
import Derived.Maps.OwnSet
import Derived.Maps.Views
import Derived.Sort.KeysCollected
import Derived.StringKeys
namespace Go.Proofs.YtijcpmbfhfppmaaGreatDoor
open Go.ChangeShapes Go.WideShapes Go.ChangeAt Go.RowKit Go.Maps

abbrev Nm := List UInt8
theorem nm_irrefl (a : Nm) : ¬ a < a := List.lt_irrefl a
theorem nm_trans {a b c : Nm} (h : a < b) (k : b < c) : a < c := List.lt_trans h k
theorem nm_tri (a b : Nm) : a < b ∨ a = b ∨ b < a := by
  by_cases h : a < b
  · exact .inl h
  · by_cases k : b < a
    · exact .inr (.inr k)
    · exact .inr (.inl (List.le_antisymm (List.not_lt.1 k) (List.not_lt.1 h)))
section
variable {α β : Type}
def Rises (fs : List (Nm × α)) : Prop := fs.Pairwise (fun x y => x.1 < y.1)
def putF (k : Nm) (v : α) : List (Nm × α) → List (Nm × α)
  | [] => [(k, v)]
  | x :: r => if x.1 < k then x :: putF k v r else if x.1 = k then (k, v) :: r else (k, v) :: x :: r
def delF (k : Nm) (fs : List (Nm × α)) : List (Nm × α) := fs.filter (fun x => decide (x.1 ≠ k))
theorem Rises.nodup {fs : List (Nm × α)} (h : Rises fs) : (fs.map (·.1)).Nodup := by
  rw [List.Nodup, List.pairwise_map]
  refine List.Pairwise.imp ?_ (show fs.Pairwise (fun x y => x.1 < y.1) from h)
  intro a b hab e
  rw [e] at hab
  exact nm_irrefl _ hab
theorem Rises.one {fs : List (Nm × α)} (h : Rises fs) {x y : Nm × α} (hx : x ∈ fs) (hy : y ∈ fs) (e : x.1 = y.1) : x = y := by
  induction fs with
  | nil => simp at hx
  | cons z r ih =>
    have h1 := List.pairwise_cons.1 h
    rcases List.mem_cons.1 hx with hx | hx <;> rcases List.mem_cons.1 hy with hy | hy
    · rw [hx, hy]
    · exact absurd (show y.1 < y.1 by have := h1.1 y hy; rw [← hx, e] at this; exact this) (nm_irrefl _)
    · exact absurd (show y.1 < y.1 by have := h1.1 x hx; rw [← hy, e] at this; exact this) (nm_irrefl _)
    · exact ih h1.2 hx hy
theorem mem_putF {k : Nm} {v : α} : ∀ {fs : List (Nm × α)}, Rises fs → ∀ y, y ∈ putF k v fs ↔ (y = (k, v) ∨ (y ∈ fs ∧ y.1 ≠ k))
  | [], _, y => by simp [putF]
  | x :: r, h, y => by
    have h1 := List.pairwise_cons.1 h
    have hr : ∀ {z}, z ∈ r → ¬ x.1 < k → z.1 ≠ k := fun {z} hz hn e => hn (e ▸ h1.1 z hz)
    unfold putF
    by_cases h2 : x.1 < k
    · rw [if_pos h2, List.mem_cons, mem_putF h1.2 y, List.mem_cons]
      have : x.1 ≠ k := fun e => nm_irrefl _ (e ▸ h2)
      constructor
      · rintro (rfl | h | h)
        · exact .inr ⟨.inl rfl, this⟩
        · exact .inl h
        · exact .inr ⟨.inr h.1, h.2⟩
      · rintro (h | ⟨rfl | h, hk⟩)
        · exact .inr (.inl h)
        · exact .inl rfl
        · exact .inr (.inr ⟨h, hk⟩)
    · rw [if_neg h2]
      by_cases h3 : x.1 = k
      · rw [if_pos h3, List.mem_cons, List.mem_cons]
        constructor
        · rintro (h | h)
          · exact .inl h
          · exact .inr ⟨.inr h, hr h h2⟩
        · rintro (h | ⟨rfl | h, hk⟩)
          · exact .inl h
          · exact absurd h3 hk
          · exact .inr h
      · rw [if_neg h3, List.mem_cons, List.mem_cons]
        constructor
        · rintro (h | rfl | h)
          · exact .inl h
          · exact .inr ⟨.inl rfl, h3⟩
          · exact .inr ⟨.inr h, hr h h2⟩
        · rintro (h | ⟨h, hk⟩)
          · exact .inl h
          · exact .inr h
theorem Rises.put {fs : List (Nm × α)} (h : Rises fs) (k : Nm) (v : α) : Rises (putF k v fs) := by
  induction fs with
  | nil => exact List.pairwise_singleton _ _
  | cons x r ih =>
    have h1 := List.pairwise_cons.1 h
    unfold putF
    by_cases h2 : x.1 < k
    · rw [if_pos h2]
      refine List.pairwise_cons.2 ⟨fun y hy => ?_, ih h1.2⟩
      rcases (mem_putF h1.2 y).1 hy with rfl | ⟨hy, _⟩
      · exact h2
      · exact h1.1 y hy
    · rw [if_neg h2]
      by_cases h3 : x.1 = k
      · rw [if_pos h3]
        exact List.pairwise_cons.2 ⟨fun y hy => by have := h1.1 y hy; rw [h3] at this; exact this, h1.2⟩
      · rw [if_neg h3]
        have h4 : k < x.1 := ((nm_tri x.1 k).resolve_left h2).resolve_left h3
        refine List.pairwise_cons.2 ⟨fun y hy => ?_, h⟩
        rcases List.mem_cons.1 hy with rfl | hy
        · exact h4
        · exact nm_trans h4 (h1.1 y hy)
theorem Rises.del {fs : List (Nm × α)} (h : Rises fs) (k : Nm) : Rises (delF k fs) := h.sublist List.filter_sublist
theorem mem_delF {fs : List (Nm × α)} {k : Nm} (y : Nm × α) : y ∈ delF k fs ↔ (y ∈ fs ∧ y.1 ≠ k) := by simp [delF]
theorem putF_map (g : α → β) (k : Nm) (v : α) : ∀ fs : List (Nm × α), (putF k v fs).map (fun x => (x.1, g x.2)) = putF k (g v) (fs.map (fun x => (x.1, g x.2)))
  | [] => rfl
  | x :: r => by
    simp only [putF, List.map_cons]
    split
    · rw [List.map_cons, putF_map g k v r]
    · split <;> rfl
theorem delF_map (g : α → β) (k : Nm) (fs : List (Nm × α)) : (delF k fs).map (fun x => (x.1, g x.2)) = delF k (fs.map (fun x => (x.1, g x.2))) := by
  simp only [delF, List.filter_map]; rfl
theorem Rises.map (g : α → β) {fs : List (Nm × α)} (h : Rises fs) : Rises (fs.map (fun x => (x.1, g x.2))) := List.pairwise_map.2 h
theorem putF_length {k : Nm} {v : α} : ∀ {fs : List (Nm × α)}, Rises fs → (putF k v fs).length = if k ∈ fs.map (·.1) then fs.length else fs.length + 1
  | [], _ => by simp [putF]
  | x :: r, h => by
    have h1 := List.pairwise_cons.1 h
    have ih := putF_length (k := k) (v := v) h1.2
    unfold putF
    by_cases h2 : x.1 < k
    · have h3 : k ≠ x.1 := fun e => nm_irrefl _ (e ▸ h2)
      rw [if_pos h2, List.length_cons, ih]
      simp only [List.map_cons, List.mem_cons, h3, false_or, List.length_cons]
      split <;> rfl
    · rw [if_neg h2]
      by_cases h3 : x.1 = k
      · rw [if_pos h3]; simp [h3]
      · rw [if_neg h3]
        have h4 : k ∉ (x :: r).map (·.1) := by
          intro hm
          simp only [List.map_cons, List.mem_cons] at hm
          rcases hm with e | hm
          · exact h3 e.symm
          · obtain ⟨z, hz, e⟩ := List.mem_map.1 hm
            exact h2 (e ▸ h1.1 z hz)
        rw [if_neg h4]; rfl
theorem delF_length {k : Nm} : ∀ {fs : List (Nm × α)}, Rises fs → (delF k fs).length + (if k ∈ fs.map (·.1) then 1 else 0) = fs.length
  | [], _ => by simp [delF]
  | x :: r, h => by
    have h1 := List.pairwise_cons.1 h
    have ih := delF_length (k := k) h1.2
    unfold delF at ih ⊢
    rw [List.filter_cons]
    by_cases h3 : x.1 = k
    · have h4 : k ∉ r.map (·.1) := fun hm => by
        obtain ⟨z, hz, e⟩ := List.mem_map.1 hm
        have := h1.1 z hz
        rw [e, h3] at this
        exact nm_irrefl _ this
      rw [if_neg h4] at ih
      simp [h3] at ih ⊢
      exact ih
    · have h5 : (k = x.1) = False := by simp; exact fun e => h3 e.symm
      rw [if_pos (by simpa using h3)]
      simp only [List.length_cons, List.map_cons, List.mem_cons, h5, false_or]
      omega
theorem delF_none {k : Nm} {fs : List (Nm × α)} (h : k ∉ fs.map (·.1)) : delF k fs = fs := by
  unfold delF
  rw [List.filter_eq_self]
  intro x hx
  have : x.1 ≠ k := fun e => h (List.mem_map.2 ⟨x, hx, e⟩)
  simpa using this
end
/-- How a file's place reads in a map: by its block. -/
def fileElem : Value → Option (DataW Unit × List MemPlace)
  | .pointer none => some (.nil, [])
  | .pointer (some a) => if a = ⟨a.block, 0, none⟩ then some (.lit (.int .i64 (a.block : Int)), []) else none
  | _ => none
theorem fileElem_mk (F : Nat) : fileElem (.pointer (some ⟨F, 0, none⟩)) = some (.lit (.int .i64 (F : Int)), []) := by simp [fileElem]
theorem fileElem_inv {v : Value} {F : Nat} {ps : List MemPlace} (h : fileElem v = some (.lit (.int .i64 (F : Int)), ps)) : v = .pointer (some ⟨F, 0, none⟩) := by
  unfold fileElem at h
  split at h
  · simp at h
  · rename_i a
    split at h
    · rename_i ha
      simp only [Option.some.injEq, Prod.mk.injEq, DataW.lit.injEq, Lit.int.injEq, true_and] at h
      have : a.block = F := by omega
      rw [ha, this]
    · cases h
  · cases h
theorem fileElem_nil {v : Value} {ps : List MemPlace} (h : fileElem v = some (.nil, ps)) : v = .pointer none := by
  unfold fileElem at h
  split at h
  · rfl
  · split at h
    · simp at h
    · cases h
  · cases h
theorem strLaw : Keyed Tryz.prog 9 := string_keyed Tryz.underlying9
theorem keyS {s : ByteArray} (h : s.size ≤ maxLen) : keyOf Tryz.prog 9 (.string s) = some (.string s.data.toList) := WideMaps.keyOf_string_mk Tryz.underlying9 h
theorem zeroFile (w : World) : (zeroValue 111).run Tryz.prog w = .ok (.pointer none) w := by kernel_rfl
/-- A map of names to files: its block, what it holds. -/
structure MapAt (w : World) (B : Nat) (fs : List (Nm × Nat)) : Prop where
  map : ∃ D : DataW Unit, w.ownsMap Tryz.prog 9 fileElem B fs.length D ∧ (∀ k : Nm, Maps.has D (.string k) = true ↔ k ∈ fs.map (·.1)) ∧ (∀ x ∈ fs, ∀ zd, D.atKey (.string x.1) zd = .lit (.int .i64 (x.2 : Int))) ∧ Maps.size D = fs.length
theorem ownsMap_tight {H : Type} {P : Program} {k : TypeId} {R : Value → Option (DataW H × List MemPlace)} {w : World} {b n : Nat} {D : DataW H} (h : w.ownsMap P k R b n D) : w.ownsMap P k R b (Maps.size D) D := by
  obtain ⟨es, clock, hb, F, hs, rfl⟩ := h
  refine ⟨es, clock, hb, F, ?_, rfl⟩
  simp [Maps.size, length_sorted]
section
variable {w w' : World} {B : Nat} {fs : List (Nm × Nat)}
theorem MapAt.same (h : MapAt w B fs) (hb : w'.heap[B]? = w.heap[B]?) : MapAt w' B fs := by
  obtain ⟨D, ⟨es, k, h1, r⟩, r2⟩ := h.map
  exact ⟨D, ⟨es, k, hb.trans h1, r⟩, r2⟩
theorem MapAt.isMap (h : MapAt w B fs) : ∃ es k, w.heap[B]? = some (.map es k) := by
  obtain ⟨D, ⟨es, k, hb, _⟩, _⟩ := h.map
  exact ⟨es, k, hb⟩
theorem MapAt.lt (h : MapAt w B fs) : B < w.heap.size := by
  obtain ⟨es, k, hb⟩ := h.isMap
  exact (Array.getElem?_eq_some_iff.1 hb).1
theorem MapAt.later (h : MapAt w B fs) (hb : Below w.heap.size w w') : MapAt w' B fs := h.same (hb.block B h.lt)
theorem MapAt.made (w : World) : MapAt (w.alloc (.map #[] 0)) w.heap.size [] :=
  ⟨_, World.ownsMap_made (H := Unit) w Tryz.prog 9 fileElem, fun _ => by simp [Maps.has], by simp, rfl⟩
theorem MapAt.look_yes (h : MapAt w B fs) (s : ByteArray) (hs : s.size ≤ maxLen) (F : Nat) (hF : (s.data.toList, F) ∈ fs) : (Instr.lookup 99 (.map (some B)) (.string s) true).run Tryz.prog w = .ok (.tuple #[.pointer (some ⟨F, 0, none⟩), .bool true]) w ∧ (Instr.lookup 99 (.map (some B)) (.string s) false).run Tryz.prog w = .ok (.pointer (some ⟨F, 0, none⟩)) w := by
  obtain ⟨D, hD, hH, hA, _⟩ := h.map
  have hh : Maps.has D (.string s.data.toList) = true := (hH _).2 (List.mem_map.2 ⟨_, hF, rfl⟩)
  obtain ⟨v, ps, hrun, hv⟩ := hD.look_ok strLaw Tryz.underlying99 (zeroFile w) (zd := .nil) (zp := []) rfl (keyS hs)
  obtain ⟨v2, ps2, hrun2, hv2⟩ := hD.lookup strLaw Tryz.underlying99 (zeroFile w) (zd := .nil) (zp := []) rfl (keyS hs)
  rw [hA _ hF] at hv hv2
  rw [fileElem_inv hv, hh] at hrun
  rw [fileElem_inv hv2] at hrun2
  exact ⟨hrun, hrun2⟩
theorem MapAt.look_no (h : MapAt w B fs) (s : ByteArray) (hs : s.size ≤ maxLen) (hF : s.data.toList ∉ fs.map (·.1)) : (Instr.lookup 99 (.map (some B)) (.string s) true).run Tryz.prog w = .ok (.tuple #[.pointer none, .bool false]) w := by
  obtain ⟨D, hD, hH, hA, _⟩ := h.map
  have hh : Maps.has D (.string s.data.toList) = false := by
    cases e : Maps.has D (.string s.data.toList) with
    | false => rfl
    | true => exact absurd ((hH _).1 e) hF
  obtain ⟨v, ps, hrun, hv⟩ := hD.look_ok strLaw Tryz.underlying99 (zeroFile w) (zd := .nil) (zp := []) rfl (keyS hs)
  rw [atKey_of_not_has hh] at hv
  rw [fileElem_nil hv, hh] at hrun
  exact hrun
theorem MapAt.len (h : MapAt w B fs) (ty : TypeId) : (Builtin.len_ #[99] ty #[.map (some B)]).run Tryz.prog w = .ok (.int .i64 (fs.length : Int)) w := by
  obtain ⟨D, hD, hH, hA, hS⟩ := h.map
  rw [← hS]
  exact hD.len Tryz.underlying99 ty
theorem MapAt.store (h : MapAt w B fs) (hr : Rises fs) (s : ByteArray) (hs : s.size ≤ maxLen) (F : Nat) (hn : fs.length ≤ 1000) : ∃ w', (Instr.mapUpdate 99 (.map (some B)) (.string s) (.pointer (some ⟨F, 0, none⟩))).run Tryz.prog w = .ok () w' ∧ MapAt w' B (putF s.data.toList F fs) ∧ w.grownBy w' (some B) ∧ w'.heap.size = w.heap.size := by
  obtain ⟨D, hD, hH, hA, hS⟩ := h.map
  obtain ⟨w', hrun, r1, r2⟩ := hD.store strLaw Tryz.underlying99 (show fs.length < maxLen by simp only [maxLen]; omega) (keyS hs) (fileElem_mk F)
  have hmap := hD.isMap
  have hkey := strLaw.key (keyS hs)
  have hsz : w'.heap.size = w.heap.size := by
    obtain ⟨_, _, _, _, _, rfl⟩ := r2
    simp [ChangeMaps.setBlock]
  have hSZ : Maps.size (D.put (.string s.data.toList) (.lit (.int .i64 (F : Int)))) = (putF s.data.toList F fs).length := by
    rw [size_put (hD.tidy strLaw), putF_length hr, hS]
    by_cases e : s.data.toList ∈ fs.map (·.1)
    · rw [if_pos e, if_pos ((hH _).2 e)]
    · rw [if_neg e, if_neg (fun e' => e ((hH _).1 e'))]
  refine ⟨w', hrun, ⟨_, by rw [← hSZ]; exact ownsMap_tight r1, fun y => ?_, fun y hy zd => ?_, hSZ⟩, r2.grown, hsz⟩
  · by_cases e : y = s.data.toList
    · subst e
      rw [has_put_same hmap hkey]
      simp only [true_iff]
      exact List.mem_map.2 ⟨_, (mem_putF hr _).2 (.inl rfl), rfl⟩
    · rw [has_put_other (fun e' => e (by simpa using e')), hH y]
      constructor
      · intro hm
        obtain ⟨z, hz, rfl⟩ := List.mem_map.1 hm
        exact List.mem_map.2 ⟨z, (mem_putF hr _).2 (.inr ⟨hz, e⟩), rfl⟩
      · intro hm
        obtain ⟨z, hz, rfl⟩ := List.mem_map.1 hm
        rcases (mem_putF hr _).1 hz with rfl | ⟨hz, _⟩
        · exact absurd rfl e
        · exact List.mem_map.2 ⟨z, hz, rfl⟩
  · rcases (mem_putF hr _).1 hy with rfl | ⟨hy, e⟩
    · exact atKey_put_same hmap hkey _ _
    · rw [atKey_put_other (fun e' => e (by simpa using e')), hA y hy]
theorem MapAt.drop (h : MapAt w B fs) (hr : Rises fs) (s : ByteArray) (hs : s.size ≤ maxLen) (ty : TypeId) : ∃ w', (Builtin.delete_ #[99, 9] ty #[.map (some B), .string s]).run Tryz.prog w = .ok (.tuple #[]) w' ∧ MapAt w' B (delF s.data.toList fs) ∧ w.grownBy w' (some B) ∧ w'.heap.size = w.heap.size := by
  obtain ⟨D, hD, hH, hA, hS⟩ := h.map
  obtain ⟨w', hrun, r1, r2⟩ := hD.drop strLaw Tryz.underlying99 (keyS hs) ty
  have hsz : w'.heap.size = w.heap.size := by
    obtain ⟨_, _, _, _, _, rfl⟩ := r2
    simp [ChangeMaps.setBlock]
  have hSZ : Maps.size (D.del (.string s.data.toList)) = (delF s.data.toList fs).length := by
    have h1 := size_del (k := .string s.data.toList) (hD.tidy strLaw)
    have h2 := delF_length (k := s.data.toList) hr
    by_cases e : s.data.toList ∈ fs.map (·.1)
    · rw [if_pos e] at h2
      rw [if_pos ((hH _).2 e)] at h1
      omega
    · rw [if_neg e] at h2
      rw [if_neg (fun e' => e ((hH _).1 e'))] at h1
      omega
  refine ⟨w', hrun, ⟨_, by rw [← hSZ]; exact ownsMap_tight r1, fun y => ?_, fun y hy zd => ?_, hSZ⟩, r2.grown, hsz⟩
  · by_cases e : y = s.data.toList
    · subst e
      rw [has_del_same]
      simp only [Bool.false_eq_true, false_iff]
      intro hm
      obtain ⟨z, hz, e⟩ := List.mem_map.1 hm
      exact ((mem_delF z).1 hz).2 e
    · rw [has_del_other (fun e' => e (by simpa using e')), hH y]
      constructor
      · intro hm
        obtain ⟨z, hz, rfl⟩ := List.mem_map.1 hm
        exact List.mem_map.2 ⟨z, (mem_delF z).2 ⟨hz, e⟩, rfl⟩
      · intro hm
        obtain ⟨z, hz, rfl⟩ := List.mem_map.1 hm
        exact List.mem_map.2 ⟨z, ((mem_delF z).1 hz).1, rfl⟩
  · obtain ⟨hy, e⟩ := (mem_delF y).1 hy
    rw [atKey_del_other (fun e' => e (by simpa using e')), hA y hy]
/-- Its keys, sorted, are the names. -/
theorem MapAt.keys (h : MapAt w B fs) (hr : Rises fs) : ∃ D : DataW Unit, w.ownsMap Tryz.prog 9 fileElem B fs.length D ∧ Maps.size D = fs.length ∧ ∀ ss : List Nm, ss.Perm (strKeys D) → ss.mergeSort (fun x y => decide (x ≤ y)) = fs.map (·.1) := by
  obtain ⟨D, hD, hH, hA, hS⟩ := h.map
  refine ⟨D, hD, hS, fun ss hp => ?_⟩
  obtain ⟨es, rfl, hke⟩ := hD.keysOf
  obtain ⟨es', e', ht⟩ := hD.tidy strLaw
  obtain rfl : es = es' := by simpa using e'
  have hq : (fs.map (·.1)).Perm (strKeys (.map es)) := by
    refine perm_strKeys ht (fun p hp => ?_) hr.nodup (fun x => (hH x).symm)
    obtain ⟨key, hk⟩ := hke p hp
    obtain ⟨x, _, hx, _⟩ := Maps.keyOf_str Tryz.underlying9 hk
    exact ⟨x, hx⟩
  have h1 := mergeSort_of_perm (hp.trans hq.symm)
  refine h1.trans (List.mergeSort_of_pairwise ?_)
  refine List.pairwise_map.2 (hr.imp fun {a b} hab => ?_)
  simp only [leB, decide_eq_true_eq]
  exact List.le_of_lt hab
end
end Go.Proofs.YtijcpmbfhfppmaaGreatDoor
