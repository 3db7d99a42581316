/- Disk: rows of named things, by their names' order; a map of names to files in memory. -/
import Derived.Test.YtghdiemihceaoaaB02
import Derived.Maps.OwnSet
import Derived.Maps.Views
import Derived.Sort.KeysCollected
import Derived.StringKeys
import Derived.Shelf.SlIter.Nil
import Derived.Shelf.SortM.Plain
import Derived.Shelf.SortM.SortNone
import Derived.Ground.GgzProg
import Derived.Ground.SlgmProg
import Derived.Test.YtghdiemihceaoaaProg
section
namespace Go.Proofs.Ytghdiemihceaoaa
open Go.ChangeShapes Go.WideShapes Go.ChangeAt Go.RowKit Go.Maps

abbrev Nm := List UInt8
theorem nm_irrefl (a : Nm) : ¬ a < a := List.lt_irrefl a
theorem nm_trans {a b c : Nm} (h : a < b) (k : b < c) : a < c := List.lt_trans h k
theorem nm_tri (a b : Nm) : a < b ∨ a = b ∨ b < a := by
  by_cases h : a < b
  · exact .inl h
  · by_cases k : b < a
    · exact .inr (.inr k)
    · exact .inr (.inl (List.le_antisymm (List.not_lt.1 k) (List.not_lt.1 h)))
section
variable {α β : Type}
def Rises (fs : List (Nm × α)) : Prop := fs.Pairwise (fun x y => x.1 < y.1)
def putF (k : Nm) (v : α) : List (Nm × α) → List (Nm × α)
  | [] => [(k, v)]
  | x :: r => if x.1 < k then x :: putF k v r else if x.1 = k then (k, v) :: r else (k, v) :: x :: r
def delF (k : Nm) (fs : List (Nm × α)) : List (Nm × α) := fs.filter (fun x => decide (x.1 ≠ k))
theorem Rises.nodup {fs : List (Nm × α)} (h : Rises fs) : (fs.map (·.1)).Nodup := by
  rw [List.Nodup, List.pairwise_map]
  refine List.Pairwise.imp ?_ (show fs.Pairwise (fun x y => x.1 < y.1) from h)
  intro a b hab e
  rw [e] at hab
  exact nm_irrefl _ hab
theorem Rises.one {fs : List (Nm × α)} (h : Rises fs) {x y : Nm × α} (hx : x ∈ fs) (hy : y ∈ fs) (e : x.1 = y.1) : x = y := by
  induction fs with
  | nil => simp at hx
  | cons z r ih =>
    have h1 := List.pairwise_cons.1 h
    rcases List.mem_cons.1 hx with hx | hx <;> rcases List.mem_cons.1 hy with hy | hy
    · rw [hx, hy]
    · exact absurd (show y.1 < y.1 by have := h1.1 y hy; rw [← hx, e] at this; exact this) (nm_irrefl _)
    · exact absurd (show y.1 < y.1 by have := h1.1 x hx; rw [← hy, e] at this; exact this) (nm_irrefl _)
    · exact ih h1.2 hx hy
theorem mem_putF {k : Nm} {v : α} : ∀ {fs : List (Nm × α)}, Rises fs → ∀ y, y ∈ putF k v fs ↔ (y = (k, v) ∨ (y ∈ fs ∧ y.1 ≠ k))
  | [], _, y => by simp [putF]
  | x :: r, h, y => by
    have h1 := List.pairwise_cons.1 h
    have hr : ∀ {z}, z ∈ r → ¬ x.1 < k → z.1 ≠ k := fun {z} hz hn e => hn (e ▸ h1.1 z hz)
    unfold putF
    by_cases h2 : x.1 < k
    · rw [if_pos h2, List.mem_cons, mem_putF h1.2 y, List.mem_cons]
      have : x.1 ≠ k := fun e => nm_irrefl _ (e ▸ h2)
      constructor
      · rintro (rfl | h | h)
        · exact .inr ⟨.inl rfl, this⟩
        · exact .inl h
        · exact .inr ⟨.inr h.1, h.2⟩
      · rintro (h | ⟨rfl | h, hk⟩)
        · exact .inr (.inl h)
        · exact .inl rfl
        · exact .inr (.inr ⟨h, hk⟩)
    · rw [if_neg h2]
      by_cases h3 : x.1 = k
      · rw [if_pos h3, List.mem_cons, List.mem_cons]
        constructor
        · rintro (h | h)
          · exact .inl h
          · exact .inr ⟨.inr h, hr h h2⟩
        · rintro (h | ⟨rfl | h, hk⟩)
          · exact .inl h
          · exact absurd h3 hk
          · exact .inr h
      · rw [if_neg h3, List.mem_cons, List.mem_cons]
        constructor
        · rintro (h | rfl | h)
          · exact .inl h
          · exact .inr ⟨.inl rfl, h3⟩
          · exact .inr ⟨.inr h, hr h h2⟩
        · rintro (h | ⟨h, hk⟩)
          · exact .inl h
          · exact .inr h
theorem Rises.put {fs : List (Nm × α)} (h : Rises fs) (k : Nm) (v : α) : Rises (putF k v fs) := by
  induction fs with
  | nil => exact List.pairwise_singleton _ _
  | cons x r ih =>
    have h1 := List.pairwise_cons.1 h
    unfold putF
    by_cases h2 : x.1 < k
    · rw [if_pos h2]
      refine List.pairwise_cons.2 ⟨fun y hy => ?_, ih h1.2⟩
      rcases (mem_putF h1.2 y).1 hy with rfl | ⟨hy, _⟩
      · exact h2
      · exact h1.1 y hy
    · rw [if_neg h2]
      by_cases h3 : x.1 = k
      · rw [if_pos h3]
        exact List.pairwise_cons.2 ⟨fun y hy => by have := h1.1 y hy; rw [h3] at this; exact this, h1.2⟩
      · rw [if_neg h3]
        have h4 : k < x.1 := ((nm_tri x.1 k).resolve_left h2).resolve_left h3
        refine List.pairwise_cons.2 ⟨fun y hy => ?_, h⟩
        rcases List.mem_cons.1 hy with rfl | hy
        · exact h4
        · exact nm_trans h4 (h1.1 y hy)
theorem Rises.del {fs : List (Nm × α)} (h : Rises fs) (k : Nm) : Rises (delF k fs) := h.sublist List.filter_sublist
theorem mem_delF {fs : List (Nm × α)} {k : Nm} (y : Nm × α) : y ∈ delF k fs ↔ (y ∈ fs ∧ y.1 ≠ k) := by simp [delF]
theorem putF_map (g : α → β) (k : Nm) (v : α) : ∀ fs : List (Nm × α), (putF k v fs).map (fun x => (x.1, g x.2)) = putF k (g v) (fs.map (fun x => (x.1, g x.2)))
  | [] => rfl
  | x :: r => by
    simp only [putF, List.map_cons]
    split
    · rw [List.map_cons, putF_map g k v r]
    · split <;> rfl
theorem delF_map (g : α → β) (k : Nm) (fs : List (Nm × α)) : (delF k fs).map (fun x => (x.1, g x.2)) = delF k (fs.map (fun x => (x.1, g x.2))) := by
  simp only [delF, List.filter_map]; rfl
theorem Rises.map (g : α → β) {fs : List (Nm × α)} (h : Rises fs) : Rises (fs.map (fun x => (x.1, g x.2))) := List.pairwise_map.2 h
theorem putF_length {k : Nm} {v : α} : ∀ {fs : List (Nm × α)}, Rises fs → (putF k v fs).length = if k ∈ fs.map (·.1) then fs.length else fs.length + 1
  | [], _ => by simp [putF]
  | x :: r, h => by
    have h1 := List.pairwise_cons.1 h
    have ih := putF_length (k := k) (v := v) h1.2
    unfold putF
    by_cases h2 : x.1 < k
    · have h3 : k ≠ x.1 := fun e => nm_irrefl _ (e ▸ h2)
      rw [if_pos h2, List.length_cons, ih]
      simp only [List.map_cons, List.mem_cons, h3, false_or, List.length_cons]
      split <;> rfl
    · rw [if_neg h2]
      by_cases h3 : x.1 = k
      · rw [if_pos h3]; simp [h3]
      · rw [if_neg h3]
        have h4 : k ∉ (x :: r).map (·.1) := by
          intro hm
          simp only [List.map_cons, List.mem_cons] at hm
          rcases hm with e | hm
          · exact h3 e.symm
          · obtain ⟨z, hz, e⟩ := List.mem_map.1 hm
            exact h2 (e ▸ h1.1 z hz)
        rw [if_neg h4]; rfl
theorem delF_length {k : Nm} : ∀ {fs : List (Nm × α)}, Rises fs → (delF k fs).length + (if k ∈ fs.map (·.1) then 1 else 0) = fs.length
  | [], _ => by simp [delF]
  | x :: r, h => by
    have h1 := List.pairwise_cons.1 h
    have ih := delF_length (k := k) h1.2
    unfold delF at ih ⊢
    rw [List.filter_cons]
    by_cases h3 : x.1 = k
    · have h4 : k ∉ r.map (·.1) := fun hm => by
        obtain ⟨z, hz, e⟩ := List.mem_map.1 hm
        have := h1.1 z hz
        rw [e, h3] at this
        exact nm_irrefl _ this
      rw [if_neg h4] at ih
      simp [h3] at ih ⊢
      exact ih
    · have h5 : (k = x.1) = False := by simp; exact fun e => h3 e.symm
      rw [if_pos (by simpa using h3)]
      simp only [List.length_cons, List.map_cons, List.mem_cons, h5, false_or]
      omega
end
/-- How a file's place reads in a map: by its block. -/
def fileElem : Value → Option (DataW Unit × List MemPlace)
  | .pointer none => some (.nil, [])
  | .pointer (some a) => if a = ⟨a.block, 0, none⟩ then some (.lit (.int .i64 (a.block : Int)), []) else none
  | _ => none
theorem fileElem_mk (F : Nat) : fileElem (.pointer (some ⟨F, 0, none⟩)) = some (.lit (.int .i64 (F : Int)), []) := by simp [fileElem]
theorem fileElem_inv {v : Value} {F : Nat} {ps : List MemPlace} (h : fileElem v = some (.lit (.int .i64 (F : Int)), ps)) : v = .pointer (some ⟨F, 0, none⟩) := by
  unfold fileElem at h
  split at h
  · simp at h
  · rename_i a
    split at h
    · rename_i ha
      simp only [Option.some.injEq, Prod.mk.injEq, DataW.lit.injEq, Lit.int.injEq, true_and] at h
      have : a.block = F := by omega
      rw [ha, this]
    · cases h
  · cases h
theorem fileElem_nil {v : Value} {ps : List MemPlace} (h : fileElem v = some (.nil, ps)) : v = .pointer none := by
  unfold fileElem at h
  split at h
  · rfl
  · split at h
    · simp at h
    · cases h
  · cases h
theorem strLaw : Keyed Try.prog 9 := string_keyed Try.underlying9
theorem keyS {s : ByteArray} (h : s.size ≤ maxLen) : keyOf Try.prog 9 (.string s) = some (.string s.data.toList) := WideMaps.keyOf_string_mk Try.underlying9 h
theorem zeroFile (w : World) : (zeroValue 69).run Try.prog w = .ok (.pointer none) w := by kernel_rfl
/-- A map of names to files: its block, what it holds. -/
structure MapAt (w : World) (B : Nat) (fs : List (Nm × Nat)) : Prop where
  map : ∃ D : DataW Unit, w.ownsMap Try.prog 9 fileElem B fs.length D ∧ (∀ k : Nm, Maps.has D (.string k) = true ↔ k ∈ fs.map (·.1)) ∧ (∀ x ∈ fs, ∀ zd, D.atKey (.string x.1) zd = .lit (.int .i64 (x.2 : Int))) ∧ Maps.size D = fs.length
theorem ownsMap_tight {H : Type} {P : Program} {k : TypeId} {R : Value → Option (DataW H × List MemPlace)} {w : World} {b n : Nat} {D : DataW H} (h : w.ownsMap P k R b n D) : w.ownsMap P k R b (Maps.size D) D := by
  obtain ⟨es, clock, hb, F, hs, rfl⟩ := h
  refine ⟨es, clock, hb, F, ?_, rfl⟩
  simp [Maps.size, length_sorted]
section
variable {w w' : World} {B : Nat} {fs : List (Nm × Nat)}
theorem MapAt.same (h : MapAt w B fs) (hb : w'.heap[B]? = w.heap[B]?) : MapAt w' B fs := by
  obtain ⟨D, ⟨es, k, h1, r⟩, r2⟩ := h.map
  exact ⟨D, ⟨es, k, hb.trans h1, r⟩, r2⟩
theorem MapAt.isMap (h : MapAt w B fs) : ∃ es k, w.heap[B]? = some (.map es k) := by
  obtain ⟨D, ⟨es, k, hb, _⟩, _⟩ := h.map
  exact ⟨es, k, hb⟩
theorem MapAt.lt (h : MapAt w B fs) : B < w.heap.size := by
  obtain ⟨es, k, hb⟩ := h.isMap
  exact (Array.getElem?_eq_some_iff.1 hb).1
theorem MapAt.later (h : MapAt w B fs) (hb : Below w.heap.size w w') : MapAt w' B fs := h.same (hb.block B h.lt)
theorem MapAt.made (w : World) : MapAt (w.alloc (.map #[] 0)) w.heap.size [] :=
  ⟨_, World.ownsMap_made (H := Unit) w Try.prog 9 fileElem, fun _ => by simp [Maps.has], by simp, rfl⟩
theorem MapAt.look_yes (h : MapAt w B fs) (s : ByteArray) (hs : s.size ≤ maxLen) (F : Nat) (hF : (s.data.toList, F) ∈ fs) : (Instr.lookup 63 (.map (some B)) (.string s) true).run Try.prog w = .ok (.tuple #[.pointer (some ⟨F, 0, none⟩), .bool true]) w ∧ (Instr.lookup 63 (.map (some B)) (.string s) false).run Try.prog w = .ok (.pointer (some ⟨F, 0, none⟩)) w := by
  obtain ⟨D, hD, hH, hA, _⟩ := h.map
  have hh : Maps.has D (.string s.data.toList) = true := (hH _).2 (List.mem_map.2 ⟨_, hF, rfl⟩)
  obtain ⟨v, ps, hrun, hv⟩ := hD.look_ok strLaw Try.underlying63 (zeroFile w) (zd := .nil) (zp := []) rfl (keyS hs)
  obtain ⟨v2, ps2, hrun2, hv2⟩ := hD.lookup strLaw Try.underlying63 (zeroFile w) (zd := .nil) (zp := []) rfl (keyS hs)
  rw [hA _ hF] at hv hv2
  rw [fileElem_inv hv, hh] at hrun
  rw [fileElem_inv hv2] at hrun2
  exact ⟨hrun, hrun2⟩
theorem MapAt.look_no (h : MapAt w B fs) (s : ByteArray) (hs : s.size ≤ maxLen) (hF : s.data.toList ∉ fs.map (·.1)) : (Instr.lookup 63 (.map (some B)) (.string s) true).run Try.prog w = .ok (.tuple #[.pointer none, .bool false]) w := by
  obtain ⟨D, hD, hH, hA, _⟩ := h.map
  have hh : Maps.has D (.string s.data.toList) = false := by
    cases e : Maps.has D (.string s.data.toList) with
    | false => rfl
    | true => exact absurd ((hH _).1 e) hF
  obtain ⟨v, ps, hrun, hv⟩ := hD.look_ok strLaw Try.underlying63 (zeroFile w) (zd := .nil) (zp := []) rfl (keyS hs)
  rw [atKey_of_not_has hh] at hv
  rw [fileElem_nil hv, hh] at hrun
  exact hrun
theorem MapAt.len (h : MapAt w B fs) (ty : TypeId) : (Builtin.len_ #[63] ty #[.map (some B)]).run Try.prog w = .ok (.int .i64 (fs.length : Int)) w := by
  obtain ⟨D, hD, hH, hA, hS⟩ := h.map
  rw [← hS]
  exact hD.len Try.underlying63 ty
theorem MapAt.store (h : MapAt w B fs) (hr : Rises fs) (s : ByteArray) (hs : s.size ≤ maxLen) (F : Nat) (hn : fs.length ≤ 1000) : ∃ w', (Instr.mapUpdate 63 (.map (some B)) (.string s) (.pointer (some ⟨F, 0, none⟩))).run Try.prog w = .ok () w' ∧ MapAt w' B (putF s.data.toList F fs) ∧ w.grownBy w' (some B) ∧ w'.heap.size = w.heap.size := by
  obtain ⟨D, hD, hH, hA, hS⟩ := h.map
  obtain ⟨w', hrun, r1, r2⟩ := hD.store strLaw Try.underlying63 (show fs.length < maxLen by simp only [maxLen]; omega) (keyS hs) (fileElem_mk F)
  have hmap := hD.isMap
  have hkey := strLaw.key (keyS hs)
  have hsz : w'.heap.size = w.heap.size := by
    obtain ⟨_, _, _, _, _, rfl⟩ := r2
    simp [ChangeMaps.setBlock]
  have hSZ : Maps.size (D.put (.string s.data.toList) (.lit (.int .i64 (F : Int)))) = (putF s.data.toList F fs).length := by
    rw [size_put (hD.tidy strLaw), putF_length hr, hS]
    by_cases e : s.data.toList ∈ fs.map (·.1)
    · rw [if_pos e, if_pos ((hH _).2 e)]
    · rw [if_neg e, if_neg (fun e' => e ((hH _).1 e'))]
  refine ⟨w', hrun, ⟨_, by rw [← hSZ]; exact ownsMap_tight r1, fun y => ?_, fun y hy zd => ?_, hSZ⟩, r2.grown, hsz⟩
  · by_cases e : y = s.data.toList
    · subst e
      rw [has_put_same hmap hkey]
      simp only [true_iff]
      exact List.mem_map.2 ⟨_, (mem_putF hr _).2 (.inl rfl), rfl⟩
    · rw [has_put_other (fun e' => e (by simpa using e')), hH y]
      constructor
      · intro hm
        obtain ⟨z, hz, rfl⟩ := List.mem_map.1 hm
        exact List.mem_map.2 ⟨z, (mem_putF hr _).2 (.inr ⟨hz, e⟩), rfl⟩
      · intro hm
        obtain ⟨z, hz, rfl⟩ := List.mem_map.1 hm
        rcases (mem_putF hr _).1 hz with rfl | ⟨hz, _⟩
        · exact absurd rfl e
        · exact List.mem_map.2 ⟨z, hz, rfl⟩
  · rcases (mem_putF hr _).1 hy with rfl | ⟨hy, e⟩
    · exact atKey_put_same hmap hkey _ _
    · rw [atKey_put_other (fun e' => e (by simpa using e')), hA y hy]
theorem MapAt.drop (h : MapAt w B fs) (hr : Rises fs) (s : ByteArray) (hs : s.size ≤ maxLen) (ty : TypeId) : ∃ w', (Builtin.delete_ #[63, 9] ty #[.map (some B), .string s]).run Try.prog w = .ok (.tuple #[]) w' ∧ MapAt w' B (delF s.data.toList fs) ∧ w.grownBy w' (some B) ∧ w'.heap.size = w.heap.size := by
  obtain ⟨D, hD, hH, hA, hS⟩ := h.map
  obtain ⟨w', hrun, r1, r2⟩ := hD.drop strLaw Try.underlying63 (keyS hs) ty
  have hsz : w'.heap.size = w.heap.size := by
    obtain ⟨_, _, _, _, _, rfl⟩ := r2
    simp [ChangeMaps.setBlock]
  have hSZ : Maps.size (D.del (.string s.data.toList)) = (delF s.data.toList fs).length := by
    have h1 := size_del (k := .string s.data.toList) (hD.tidy strLaw)
    have h2 := delF_length (k := s.data.toList) hr
    by_cases e : s.data.toList ∈ fs.map (·.1)
    · rw [if_pos e] at h2
      rw [if_pos ((hH _).2 e)] at h1
      omega
    · rw [if_neg e] at h2
      rw [if_neg (fun e' => e ((hH _).1 e'))] at h1
      omega
  refine ⟨w', hrun, ⟨_, by rw [← hSZ]; exact ownsMap_tight r1, fun y => ?_, fun y hy zd => ?_, hSZ⟩, r2.grown, hsz⟩
  · by_cases e : y = s.data.toList
    · subst e
      rw [has_del_same]
      simp only [Bool.false_eq_true, false_iff]
      intro hm
      obtain ⟨z, hz, e⟩ := List.mem_map.1 hm
      exact ((mem_delF z).1 hz).2 e
    · rw [has_del_other (fun e' => e (by simpa using e')), hH y]
      constructor
      · intro hm
        obtain ⟨z, hz, rfl⟩ := List.mem_map.1 hm
        exact List.mem_map.2 ⟨z, (mem_delF z).2 ⟨hz, e⟩, rfl⟩
      · intro hm
        obtain ⟨z, hz, rfl⟩ := List.mem_map.1 hm
        exact List.mem_map.2 ⟨z, ((mem_delF z).1 hz).1, rfl⟩
  · obtain ⟨hy, e⟩ := (mem_delF y).1 hy
    rw [atKey_del_other (fun e' => e (by simpa using e')), hA y hy]
/-- Its keys, sorted, are the names. -/
theorem MapAt.keys (h : MapAt w B fs) (hr : Rises fs) : ∃ D : DataW Unit, w.ownsMap Try.prog 9 fileElem B fs.length D ∧ Maps.size D = fs.length ∧ ∀ ss : List Nm, ss.Perm (strKeys D) → ss.mergeSort (fun x y => decide (x ≤ y)) = fs.map (·.1) := by
  obtain ⟨D, hD, hH, hA, hS⟩ := h.map
  refine ⟨D, hD, hS, fun ss hp => ?_⟩
  obtain ⟨es, rfl, hke⟩ := hD.keysOf
  obtain ⟨es', e', ht⟩ := hD.tidy strLaw
  obtain rfl : es = es' := by simpa using e'
  have hq : (fs.map (·.1)).Perm (strKeys (.map es)) := by
    refine perm_strKeys ht (fun p hp => ?_) hr.nodup (fun x => (hH x).symm)
    obtain ⟨key, hk⟩ := hke p hp
    obtain ⟨x, _, hx, _⟩ := Maps.keyOf_str Try.underlying9 hk
    exact ⟨x, hx⟩
  have h1 := mergeSort_of_perm (hp.trans hq.symm)
  refine h1.trans (List.mergeSort_of_pairwise ?_)
  refine List.pairwise_map.2 (hr.imp fun {a b} hab => ?_)
  simp only [leB, decide_eq_true_eq]
  exact List.le_of_lt hab
end
end Go.Proofs.Ytghdiemihceaoaa
end
/- Disk: what a file is by its changes; a disk in memory. -/
section
namespace Go.Proofs.Ytghdiemihceaoaa
open Go.ChangeShapes Go.WideShapes Go.ChangeAt Go.RowKit Go.Maps

/-- A file by the document: whether something lasts, what lasts, the changes since. -/
structure Sp where
  la : Bool
  y : List Nat
  cs : List Chg
def nowC : List Chg → List Nat → List Nat
  | [], y => y
  | c :: cs, y => nowC cs (ontoC c y (unitsC c))
def Sp.now (s : Sp) : List Nat := nowC s.cs s.y
def Fil.sp (f : Fil) : Sp := ⟨f.la, f.y, f.xs.map (·.1)⟩
theorem nowC_snoc (c : Chg) : ∀ (cs : List Chg) (y : List Nat), nowC (cs ++ [c]) y = ontoC c (nowC cs y) (unitsC c)
  | [], _ => rfl
  | x :: cs, y => by simp only [List.cons_append, nowC]; exact nowC_snoc c cs _
theorem fitsC_snoc (c : Chg) : ∀ (cs : List Chg) (y : List Nat), fitsC cs y → c.2.1 ≤ (nowC cs y).length → (nowC cs y).length + c.2.2.length ≤ 140737488355328 → fitsC (cs ++ [c]) y
  | [], _, _, h1, h2 => ⟨h1, h2, trivial⟩
  | _ :: cs, _, h, h1, h2 => ⟨h.1, h.2.1, fitsC_snoc c cs _ h.2.2 h1 h2⟩
def smallC (c : Chg) : Prop := (c.1 = false → c.2.1 + c.2.2.length ≤ 262144 ∧ 0 < c.2.2.length) ∧ (c.1 = true → c.2.2 = [])
theorem ontoC_small (c : Chg) (y : List Nat) (u : Nat) (hk : c.2.1 ≤ y.length) (hs : smallC c) (hy : y.length ≤ 262144) : (ontoC c y u).length ≤ 262144 := by
  unfold ontoC
  split
  · rw [List.length_take]; omega
  · rename_i h
    have := (hs.1 (by simpa using h)).1
    rw [overL_length _ _ _ hk, List.length_take]; omega
theorem crashL_small : ∀ (cs : List Chg) (y : List Nat) (n : Nat), fitsC cs y → (∀ c ∈ cs, smallC c) → y.length ≤ 262144 → (crashL cs y n).1.length ≤ 262144
  | [], _, _, _, _, h => h
  | c :: cs, y, n, hf, hs, hy => by
    unfold crashL
    split
    · exact hy
    · have h1 := ontoC_small c y (min n (unitsC c)) hf.1 (hs c List.mem_cons_self) hy
      by_cases h2 : n ≤ unitsC c
      · rw [show n - min n (unitsC c) = 0 by omega, crashL_zero]
        exact h1
      · rw [show min n (unitsC c) = unitsC c by omega] at h1 ⊢
        exact crashL_small cs _ _ hf.2.2 (fun x hx => hs x (List.mem_cons_of_mem _ hx)) h1
theorem crashL_lt : ∀ (cs : List Chg) (y : List Nat) (n : Nat), (∀ c ∈ cs, ∀ b ∈ c.2.2, b < 256) → (∀ b ∈ y, b < 256) → ∀ b ∈ (crashL cs y n).1, b < 256
  | [], _, _, _, h => h
  | c :: cs, y, n, hc, hy => by
    unfold crashL
    split
    · exact hy
    · refine crashL_lt cs _ _ (fun x hx => hc x (List.mem_cons_of_mem _ hx)) (fun b hb => ?_)
      unfold ontoC at hb
      split at hb
      · exact hy b (List.mem_of_mem_take hb)
      · exact overL_lt _ hy (fun b hb => hc c List.mem_cons_self b (List.mem_of_mem_take hb)) b hb
/-- A file that the calls have made, of at most N changes. -/
structure FOk (N : Nat) (f : Fil) : Prop where
  now : f.b = f.sp.now
  fit : fitsC f.sp.cs f.y
  small : ∀ c ∈ f.sp.cs, smallC c
  y8 : f.y.length ≤ 262144
  b8 : f.b.length ≤ 262144
  few : f.xs.length ≤ N
  gone : f.la = false → f.y = []
def fil0 : Fil := ⟨none, 0, [], none, 0, [], false, none, 0, []⟩
theorem FOk.zero (N : Nat) : FOk N fil0 := ⟨rfl, trivial, by simp [fil0, Fil.sp], by simp [fil0], by simp [fil0], by simp [fil0], fun _ => rfl⟩
theorem FOk.mono {N M : Nat} {f : Fil} (h : FOk N f) (hm : N ≤ M) : FOk M f := ⟨h.now, h.fit, h.small, h.y8, h.b8, Nat.le_trans h.few hm, h.gone⟩
theorem FOk.write {N : Nat} {f : Fil} (h : FOk N f) (k : Nat) (hk : k ≤ f.b.length) (o : List Nat) (ho : 0 < o.length) (hm : k + o.length ≤ 262144) (bp : Option Addr) (bc : Nat) (cp : Option Addr) (cc : Nat) (hd : Option Addr × Nat) :
    FOk (N + 1) ((f.over bp bc (overL f.b k o)).more cp cc ((false, k, o), hd)) := by
  have hn : f.b = nowC f.sp.cs f.y := h.now
  have hc : ((f.over bp bc (overL f.b k o)).more cp cc ((false, k, o), hd)).sp.cs = f.sp.cs ++ [(false, k, o)] := by simp [Fil.sp, Fil.more, Fil.over]
  have hb8 : (overL f.b k o).length ≤ 262144 := by rw [overL_length _ _ _ hk]; have := h.b8; omega
  refine ⟨?_, ?_, ?_, h.y8, hb8, ?_, h.gone⟩
  · show overL f.b k o = nowC _ f.y
    rw [hc, nowC_snoc, ← hn]
    simp [ontoC, unitsC]
  · rw [hc]
    refine fitsC_snoc _ _ _ h.fit ?_ ?_
    · show k ≤ (nowC f.sp.cs f.y).length
      rw [← hn]; exact hk
    · show (nowC f.sp.cs f.y).length + o.length ≤ _
      rw [← hn]; have := h.b8; omega
  · rw [hc]
    intro c hcm
    rcases List.mem_append.1 hcm with hcm | hcm
    · exact h.small c hcm
    · obtain rfl : c = (false, k, o) := by simpa using hcm
      exact ⟨fun _ => ⟨hm, ho⟩, fun e => by cases e⟩
  · simp only [Fil.more, Fil.over, List.length_append, List.length_cons, List.length_nil]
    have := h.few
    omega
theorem FOk.over0 {N : Nat} {f : Fil} (h : FOk N f) (k : Nat) (bp : Option Addr) (bc : Nat) : FOk N (f.over bp bc (overL f.b k [])) := by
  rw [overL_nil]
  exact ⟨h.now, h.fit, h.small, h.y8, h.b8, h.few, h.gone⟩
theorem FOk.cut {N : Nat} {f : Fil} (h : FOk N f) (k : Nat) (hk : k ≤ f.b.length) (cp : Option Addr) (cc : Nat) : FOk (N + 1) ((f.shorter k).more cp cc ((true, k, []), (none, 0))) := by
  have hn : f.b = nowC f.sp.cs f.y := h.now
  have hc : ((f.shorter k).more cp cc ((true, k, []), (none, 0))).sp.cs = f.sp.cs ++ [(true, k, [])] := by simp [Fil.sp, Fil.more, Fil.shorter]
  refine ⟨?_, ?_, ?_, h.y8, ?_, ?_, h.gone⟩
  · show f.b.take k = nowC _ f.y
    rw [hc, nowC_snoc, ← hn]
    simp [ontoC]
  · rw [hc]
    refine fitsC_snoc _ _ _ h.fit ?_ ?_
    · show k ≤ (nowC f.sp.cs f.y).length
      rw [← hn]; exact hk
    · show (nowC f.sp.cs f.y).length + 0 ≤ _
      rw [← hn]; have := h.b8; omega
  · rw [hc]
    intro c hcm
    rcases List.mem_append.1 hcm with hcm | hcm
    · exact h.small c hcm
    · obtain rfl : c = (true, k, []) := by simpa using hcm
      exact ⟨fun e => (by cases e), fun _ => rfl⟩
  · show (f.b.take k).length ≤ _
    rw [List.length_take]; have := h.b8; omega
  · simp only [Fil.more, Fil.shorter, List.length_append, List.length_cons, List.length_nil]
    have := h.few
    omega
theorem FOk.synced {N : Nat} {f : Fil} (h : FOk N f) (yp : Option Addr) : FOk N (f.synced yp) :=
  ⟨rfl, trivial, by simp [Fil.synced, Fil.sp], h.b8, h.b8, by simp [Fil.synced], fun e => by cases e⟩
theorem FOk.crashed {N : Nat} {f g : Fil} (h : FOk N f) (U : Nat) (hb : g.b = (crashL f.sp.cs f.y U).1) (hy : g.y = (crashL f.sp.cs f.y U).1) (hl : g.la = true) (hx : g.xs = []) : FOk N g := by
  have h8 := crashL_small f.sp.cs f.y U h.fit h.small h.y8
  refine ⟨?_, ?_, ?_, by rw [hy]; exact h8, by rw [hb]; exact h8, by simp [hx], fun e => by rw [hl] at e; cases e⟩
  · simp [Sp.now, Fil.sp, hx, nowC, hb, hy]
  · simp [Fil.sp, hx, fitsC]
  · simp [Fil.sp, hx]
theorem FileAt.mut_lt {base : Nat} {w : World} {F : Nat} {f : Fil} (h : FileAt base w F f) {g : Nat} (hg : f.mut F g) : base ≤ g ∧ g < w.heap.size := by
  rcases hg with rfl | hg | hg | hg
  · exact ⟨h.low, h.ltF⟩
  · exact ⟨(h.bytes.isT g hg).1, (h.bytes.isT g hg).2.1⟩
  · exact ⟨(h.sure.isT g hg).1, (h.sure.isT g hg).2.1⟩
  · exact ⟨(h.chs.blk_is g hg).1, (h.chs.blk_is g hg).2.1⟩
theorem FileAt.red_lt {base : Nat} {w : World} {F : Nat} {f : Fil} (h : FileAt base w F f) {g : Nat} (hg : f.red g) : 0 ≤ g ∧ g < w.heap.size ∧ ∃ cur : Array Value, w.heap[g]? = some (.cells cur 5 (0, 0)) := by
  obtain ⟨x, hx, hg⟩ := hg
  exact (h.chs.dat x hx).isT g hg
/-- Which kinds of blocks a file lies in. -/
theorem FileAt.mut_is {base : Nat} {w : World} {F : Nat} {f : Fil} (h : FileAt base w F f) {g : Nat} (hg : f.mut F g) : ∃ (cur : Array Value) (T : TypeId), w.heap[g]? = some (.cells cur T (0, 0)) ∧ (T = 75 ∨ T = 5 ∨ T = 96) := by
  rcases hg with rfl | hg | hg | hg
  · exact ⟨_, _, h.box, .inl rfl⟩
  · obtain ⟨_, _, cur, hc⟩ := h.bytes.isT g hg
    exact ⟨_, _, hc, .inr (.inl rfl)⟩
  · obtain ⟨_, _, cur, hc⟩ := h.sure.isT g hg
    exact ⟨_, _, hc, .inr (.inl rfl)⟩
  · obtain ⟨_, _, cur, hc⟩ := h.chs.blk_is g hg
    exact ⟨_, _, hc, .inr (.inr rfl)⟩
theorem FileAt.self {base : Nat} {w : World} {F : Nat} {f : Fil} (h : FileAt base w F f) {g : Nat} (hm : f.mut F g) : ¬ f.red g := by
  intro hr
  obtain ⟨_, _, cur, hc⟩ := h.red_lt hr
  obtain ⟨x, hx, hg⟩ := hr
  rcases hm with rfl | hm | hm | hm
  · rw [h.box] at hc; simp at hc
  · exact (h.far x hx g hg).1 hm
  · exact (h.far x hx g hg).2 hm
  · obtain ⟨_, _, cur2, hc2⟩ := h.chs.blk_is g hm
    rw [hc2] at hc; simp at hc
theorem Bx.same {base : Nat} {w w' : World} {sp : Option Addr} {c : Nat} {l : List Nat} (h : Bx base w sp c l) (hs : ∀ g, blk sp = some g → w'.heap[g]? = w.heap[g]?) : Bx base w' sp c l := by
  refine ⟨h.lt, ?_⟩
  rcases h.row with hv | ⟨g, cur, h1, hb, hh, r⟩
  · exact .inl hv
  · exact .inr ⟨g, cur, h1, hb, (hs g (by rw [h1]; rfl)).trans hh, r⟩
theorem OwnC.same {base : Nat} {w w' : World} {sp : Option Addr} {c : Nat} {xs : List ChH} (h : OwnC base w sp c xs) (hs : ∀ g, blk sp = some g → w'.heap[g]? = w.heap[g]?) (hd : ∀ x ∈ xs, ∀ g, blk x.2.1 = some g → w'.heap[g]? = w.heap[g]?) : OwnC base w' sp c xs := by
  refine ⟨⟨h.row.1, ?_⟩, fun x hx => (h.dat x hx).same (hd x hx)⟩
  rcases h.row.2 with hv | ⟨g, cap, cur, hv, hb, hg, r⟩
  · exact .inl hv
  · refine .inr ⟨g, cap, cur, hv, hb, (hs g ?_).trans hg, r⟩
    simp only [Value.slice.injEq] at hv
    rw [hv.1]; rfl
theorem FileAt.same {base : Nat} {w w' : World} {F : Nat} {f : Fil} (h : FileAt base w F f) (hs : ∀ g, f.mut F g ∨ f.red g → w'.heap[g]? = w.heap[g]?) : FileAt base w' F f :=
  ⟨(hs F (.inl (.inl rfl))).trans h.box, h.bytes.same (fun g hg => hs g (.inl (.inr (.inl hg)))), h.sure.same (fun g hg => hs g (.inl (.inr (.inr (.inl hg))))),
    h.chs.same (fun g hg => hs g (.inl (.inr (.inr (.inr hg))))) (fun x hx g hg => hs g (.inr ⟨x, hx, hg⟩)), h.low, h.apart, h.far⟩
/-- A disk in memory: its block, its map's, its room, its files by their names. -/
abbrev Fe := Nm × Nat × Fil
def Fe.mut (x : Fe) (g : Nat) : Prop := x.2.2.mut x.2.1 g
def Fe.red (x : Fe) (g : Nat) : Prop := x.2.2.red g
abbrev ptrs (fs : List Fe) : List (Nm × Nat) := fs.map (fun x => (x.1, x.2.1))
abbrev sps (fs : List Fe) : List (Nm × Sp) := fs.map (fun x => (x.1, x.2.2.sp))
structure DiskAt (base : Nat) (w : World) (d M room N : Nat) (fs : List Fe) : Prop where
  box : w.heap[d]? = some (.cells #[.int .i64 (room : Int), .map (some M)] 65 (0, 0))
  map : MapAt w M (ptrs fs)
  rise : Rises fs
  file : ∀ x ∈ fs, FileAt base w x.2.1 x.2.2
  ok : ∀ x ∈ fs, FOk N x.2.2
  lowD : base ≤ d
  lowM : base ≤ M
  ap : ∀ x ∈ fs, ∀ y ∈ fs, x.1 ≠ y.1 → ∀ g, x.mut g → ¬ y.mut g
  rd : ∀ x ∈ fs, ∀ y ∈ fs, ∀ g, x.mut g → ¬ y.red g
  few : fs.length ≤ 16
  names : ∀ x ∈ fs, x.1.length ≤ 64
/-- The blocks that calls on a disk may write to, and those that they only read. -/
def DMut (d M : Nat) (fs : List Fe) (g : Nat) : Prop := g = d ∨ g = M ∨ ∃ x ∈ fs, x.mut g
def DRed (fs : List Fe) (g : Nat) : Prop := ∃ x ∈ fs, x.red g
structure DGrew (d M : Nat) (w : World) (fs : List Fe) (w' : World) (fs' : List Fe) : Prop where
  os : w'.os = w.os
  tape : w'.tape = w.tape
  output : w'.output = w.output
  size : w.heap.size ≤ w'.heap.size
  block : ∀ i, i < w.heap.size → ¬ DMut d M fs i → w'.heap[i]? = w.heap[i]?
  muts : ∀ g, DMut d M fs' g → DMut d M fs g ∨ w.heap.size ≤ g
  reds : ∀ g, DRed fs' g → DRed fs g ∨ w.heap.size ≤ g
section
variable {base d M room N : Nat} {w w' : World} {fs fs' fs2 : List Fe}
theorem DGrew.refl : DGrew d M w fs w fs := ⟨rfl, rfl, rfl, Nat.le_refl _, fun _ _ _ => rfl, fun _ h => .inl h, fun _ h => .inl h⟩
theorem DGrew.trans {w2 : World} (h : DGrew d M w fs w' fs') (k : DGrew d M w' fs' w2 fs2) : DGrew d M w fs w2 fs2 := by
  refine ⟨k.os.trans h.os, k.tape.trans h.tape, k.output.trans h.output, Nat.le_trans h.size k.size, fun i hi hn => ?_, fun g hg => ?_, fun g hg => ?_⟩
  · refine (k.block i (Nat.lt_of_lt_of_le hi h.size) (fun hm => ?_)).trans (h.block i hi hn)
    rcases h.muts i hm with h1 | h1
    · exact hn h1
    · omega
  · rcases k.muts g hg with h1 | h1
    · exact h.muts g h1
    · exact .inr (Nat.le_trans h.size h1)
  · rcases k.reds g hg with h1 | h1
    · exact h.reds g h1
    · exact .inr (Nat.le_trans h.size h1)
theorem DGrew.ofBelow (hb : Below w.heap.size w w') : DGrew d M w fs w' fs := ⟨hb.os, hb.tape, hb.output, hb.size, fun i hi _ => hb.block i hi, fun _ h => .inl h, fun _ h => .inl h⟩
theorem DiskAt.ltD (h : DiskAt base w d M room N fs) : d < w.heap.size := (Array.getElem?_eq_some_iff.1 h.box).1
theorem DiskAt.mut_lt (h : DiskAt base w d M room N fs) {g : Nat} (hg : DMut d M fs g) : base ≤ g ∧ g < w.heap.size := by
  rcases hg with rfl | rfl | ⟨x, hx, hg⟩
  · exact ⟨h.lowD, h.ltD⟩
  · exact ⟨h.lowM, h.map.lt⟩
  · exact (h.file x hx).mut_lt hg
theorem DiskAt.red_lt (h : DiskAt base w d M room N fs) {g : Nat} (hg : DRed fs g) : 0 ≤ g ∧ g < w.heap.size := by
  obtain ⟨x, hx, hg⟩ := hg
  exact ⟨((h.file x hx).red_lt hg).1, ((h.file x hx).red_lt hg).2.1⟩
/-- Its own block and its map's lie in no file. -/
theorem DiskAt.dm (h : DiskAt base w d M room N fs) : d ≠ M := by
  intro e
  obtain ⟨es, k, hm⟩ := h.map.isMap
  rw [← e, h.box] at hm
  simp at hm
theorem DiskAt.notD (h : DiskAt base w d M room N fs) {x : Fe} (hx : x ∈ fs) : ¬ x.mut d ∧ ¬ x.red d := by
  constructor
  · intro hm
    obtain ⟨cur, T, hc, hT⟩ := (h.file x hx).mut_is hm
    rw [h.box] at hc
    simp only [Option.some.injEq, Obj.cells.injEq] at hc
    rw [← hc.2.1] at hT
    exact absurd hT (by decide)
  · intro hm
    obtain ⟨_, _, cur, hc⟩ := (h.file x hx).red_lt hm
    rw [h.box] at hc
    simp at hc
theorem DiskAt.notM (h : DiskAt base w d M room N fs) {x : Fe} (hx : x ∈ fs) : ¬ x.mut M ∧ ¬ x.red M := by
  obtain ⟨es, k, hm0⟩ := h.map.isMap
  constructor
  · intro hm
    obtain ⟨cur, T, hc, hT⟩ := (h.file x hx).mut_is hm
    rw [hm0] at hc
    simp at hc
  · intro hm
    obtain ⟨_, _, cur, hc⟩ := (h.file x hx).red_lt hm
    rw [hm0] at hc
    simp at hc
theorem DiskAt.same (h : DiskAt base w d M room N fs) (hs : ∀ g, g < w.heap.size → DMut d M fs g ∨ DRed fs g → w'.heap[g]? = w.heap[g]?) : DiskAt base w' d M room N fs :=
  ⟨(hs d h.ltD (.inl (.inl rfl))).trans h.box, h.map.same (hs M h.map.lt (.inl (.inr (.inl rfl)))), h.rise, fun x hx => (h.file x hx).same (fun g hg => by
    rcases hg with hg | hg
    · exact hs g ((h.file x hx).mut_lt hg).2 (.inl (.inr (.inr ⟨x, hx, hg⟩)))
    · exact hs g ((h.file x hx).red_lt hg).2.1 (.inr ⟨x, hx, hg⟩)), h.ok, h.lowD, h.lowM, h.ap, h.rd, h.few, h.names⟩
theorem DiskAt.later (h : DiskAt base w d M room N fs) (hb : Below w.heap.size w w') : DiskAt base w' d M room N fs := h.same (fun g hg _ => hb.block g hg)
theorem DiskAt.mono {N' : Nat} (h : DiskAt base w d M room N fs) (hN : N ≤ N') : DiskAt base w d M room N' fs :=
  ⟨h.box, h.map, h.rise, h.file, fun x hx => (h.ok x hx).mono hN, h.lowD, h.lowM, h.ap, h.rd, h.few, h.names⟩
theorem putF_same {α : Type} {k : Nm} {v : α} : ∀ {fs : List (Nm × α)}, Rises fs → (k, v) ∈ fs → putF k v fs = fs
  | [], _, h => by simp at h
  | x :: r, h, hm => by
    have h1 := List.pairwise_cons.1 h
    unfold putF
    rcases List.mem_cons.1 hm with rfl | hm
    · rw [if_neg (nm_irrefl _), if_pos rfl]
    · rw [if_pos (h1.1 _ hm), putF_same h1.2 hm]
/-- One file has changed, or a new one stands there (by its own call alone): the map has it already. -/
theorem DiskAt.upd (h : DiskAt base w d M room N fs) {x : Fe} (hx : x ∈ fs) {f' : Fil} {N' : Nat} (hf : FileAt base w' x.2.1 f') (hg : FGrew x.2.1 w x.2.2 w' f') (hok : FOk N' f') (hN : N ≤ N') :
    DiskAt base w' d M room N' (putF x.1 (x.2.1, f') fs) ∧ DGrew d M w fs w' (putF x.1 (x.2.1, f') fs) := by
  have hmem := fun (y : Fe) => mem_putF (k := x.1) (v := (x.2.1, f')) h.rise y
  have hnew : ∀ g, f'.mut x.2.1 g → x.mut g ∨ w.heap.size ≤ g := hg.muts
  have hnewr : ∀ g, f'.red g → x.red g ∨ w.heap.size ≤ g := hg.reds
  have hout : ∀ y ∈ fs, y.1 ≠ x.1 → ∀ g, y.mut g ∨ y.red g → w'.heap[g]? = w.heap[g]? := by
    intro y hy hne g hyg
    refine hg.block g ?_ (fun hm => ?_)
    · rcases hyg with h1 | h1
      · exact ((h.file y hy).mut_lt h1).2
      · exact ((h.file y hy).red_lt h1).2.1
    · rcases hyg with h1 | h1
      · exact h.ap y hy x hx hne g h1 hm
      · exact h.rd x hx y hy g hm h1
  have hptr : ptrs (putF x.1 (x.2.1, f') fs) = ptrs fs := by
    show (putF x.1 (x.2.1, f') fs).map (fun y => (y.1, (fun z : Nat × Fil => z.1) y.2)) = _
    rw [putF_map]
    exact putF_same (h.rise.map _) (List.mem_map.2 ⟨x, hx, rfl⟩)
  have hkin : x.1 ∈ fs.map (·.1) := List.mem_map.2 ⟨x, hx, rfl⟩
  refine ⟨⟨(hg.block d h.ltD (h.notD hx).1).trans h.box, ?_, h.rise.put _ _, ?_, ?_, h.lowD, h.lowM, ?_, ?_, ?_, ?_⟩, ⟨hg.os, hg.tape, hg.output, hg.size, fun i hi hn => hg.block i hi (fun hm => hn (.inr (.inr ⟨x, hx, hm⟩))), ?_, ?_⟩⟩
  · rw [hptr]
    exact h.map.same (hg.block M h.map.lt (h.notM hx).1)
  · intro y hy
    rcases (hmem y).1 hy with rfl | ⟨hy, hne⟩
    · exact hf
    · exact (h.file y hy).same (fun g hgy => hout y hy hne g hgy)
  · intro y hy
    rcases (hmem y).1 hy with rfl | ⟨hy, hne⟩
    · exact hok
    · exact (h.ok y hy).mono hN
  · intro y hy z hz hne g hyg hzg
    rcases (hmem y).1 hy with rfl | ⟨hy, hye⟩ <;> rcases (hmem z).1 hz with rfl | ⟨hz, hze⟩
    · exact hne rfl
    · rcases hnew g hyg with h1 | h1
      · exact h.ap x hx z hz (fun e => hze e.symm) g h1 hzg
      · have := ((h.file z hz).mut_lt hzg).2; omega
    · rcases hnew g hzg with h1 | h1
      · exact h.ap y hy x hx hye g hyg h1
      · have := ((h.file y hy).mut_lt hyg).2; omega
    · exact h.ap y hy z hz hne g hyg hzg
  · intro y hy z hz g hyg hzg
    rcases (hmem y).1 hy with rfl | ⟨hy, hye⟩ <;> rcases (hmem z).1 hz with rfl | ⟨hz, hze⟩
    · exact hf.self hyg hzg
    · rcases hnew g hyg with h1 | h1
      · exact h.rd x hx z hz g h1 hzg
      · have := ((h.file z hz).red_lt hzg).2.1; omega
    · rcases hnewr g hzg with h1 | h1
      · exact h.rd y hy x hx g hyg h1
      · have := ((h.file y hy).mut_lt hyg).2; omega
    · exact h.rd y hy z hz g hyg hzg
  · have e := congrArg List.length hptr
    simp only [ptrs, List.length_map] at e
    rw [e]; exact h.few
  · intro y hy
    rcases (hmem y).1 hy with rfl | ⟨hy, _⟩
    · exact h.names x hx
    · exact h.names y hy
  · intro g hgm
    rcases hgm with e | e | ⟨y, hy, hgm⟩
    · exact .inl (.inl e)
    · exact .inl (.inr (.inl e))
    · rcases (hmem y).1 hy with rfl | ⟨hy, _⟩
      · rcases hnew g hgm with h1 | h1
        · exact .inl (.inr (.inr ⟨x, hx, h1⟩))
        · exact .inr h1
      · exact .inl (.inr (.inr ⟨y, hy, hgm⟩))
  · intro g hgm
    obtain ⟨y, hy, hgm⟩ := hgm
    rcases (hmem y).1 hy with rfl | ⟨hy, _⟩
    · rcases hnewr g hgm with h1 | h1
      · exact .inl ⟨x, hx, h1⟩
      · exact .inr h1
    · exact .inl ⟨y, hy, hgm⟩
/-- The map alone has changed: files are taken away, or one that lies apart comes to it. -/
theorem DiskAt.remap (h : DiskAt base w d M room N fs) (hg : w.grownBy w' (some M)) (hm : MapAt w' M (ptrs fs')) (hr : Rises fs') (hsub : ∀ y ∈ fs', y.1.length ≤ 64 ∧ ∃ x ∈ fs, y.2 = x.2) (hinj : ∀ y ∈ fs', ∀ z ∈ fs', y.1 ≠ z.1 → ∀ a ∈ fs, ∀ b ∈ fs, y.2 = a.2 → z.2 = b.2 → a.1 ≠ b.1) (hfew : fs'.length ≤ 16) :
    DiskAt base w' d M room N fs' ∧ DGrew d M w fs w' fs' := by
  have hk : ∀ g, g < w.heap.size → g ≠ M → w'.heap[g]? = w.heap[g]? := fun g hlt hne => hg.block g hlt (fun e => hne (Option.some.inj e))
  have hfile : ∀ x ∈ fs, FileAt base w' x.2.1 x.2.2 := fun x hx => (h.file x hx).same (fun g hgx => by
    rcases hgx with h1 | h1
    · exact hk g ((h.file x hx).mut_lt h1).2 (fun e => (h.notM hx).1 (e ▸ h1))
    · exact hk g ((h.file x hx).red_lt h1).2.1 (fun e => (h.notM hx).2 (e ▸ h1)))
  refine ⟨⟨(hk d h.ltD h.dm).trans h.box, hm, hr, ?_, ?_, h.lowD, h.lowM, ?_, ?_, hfew, fun y hy => (hsub y hy).1⟩, ⟨hg.os, hg.tape, hg.output, hg.size, fun i hi hn => hk i hi (fun e => hn (.inr (.inl e))), ?_, ?_⟩⟩
  · intro y hy
    obtain ⟨_, x, hx, e⟩ := hsub y hy
    rw [e]; exact hfile x hx
  · intro y hy
    obtain ⟨_, x, hx, e⟩ := hsub y hy
    rw [e]; exact h.ok x hx
  · intro y hy z hz hne g hyg hzg
    obtain ⟨_, a, ha, ea⟩ := hsub y hy
    obtain ⟨_, b, hb, eb⟩ := hsub z hz
    have h1 := hinj y hy z hz hne a ha b hb ea eb
    unfold Fe.mut at hyg hzg
    rw [ea] at hyg
    rw [eb] at hzg
    exact h.ap a ha b hb h1 g hyg hzg
  · intro y hy z hz g hyg hzg
    obtain ⟨_, a, ha, ea⟩ := hsub y hy
    obtain ⟨_, b, hb, eb⟩ := hsub z hz
    unfold Fe.mut at hyg
    unfold Fe.red at hzg
    rw [ea] at hyg
    rw [eb] at hzg
    exact h.rd a ha b hb g hyg hzg
  · intro g hgm
    rcases hgm with e | e | ⟨y, hy, hgm⟩
    · exact .inl (.inl e)
    · exact .inl (.inr (.inl e))
    · obtain ⟨_, x, hx, e⟩ := hsub y hy
      unfold Fe.mut at hgm
      rw [e] at hgm
      exact .inl (.inr (.inr ⟨x, hx, hgm⟩))
  · intro g hgm
    obtain ⟨y, hy, hgm⟩ := hgm
    obtain ⟨_, x, hx, e⟩ := hsub y hy
    unfold Fe.red at hgm
    rw [e] at hgm
    exact .inl ⟨x, hx, hgm⟩
end
end Go.Proofs.Ytghdiemihceaoaa
end
/- The keys of a map of names, sorted: contracts of the library's functions at this program's numbers. -/
section
namespace Go.Proofs
open Go.RowKit Go.Maps Go.Sort Go.Shelf
def Try.keys64_ren : Go.Shelf.Ren := ⟨fun | 7 => 64 | 10 => 70 | n => n, fun | 23 => 63 | 26 => 9 | 3 => 69 | 28 => 99 | 0 => 0 | 27 => 98 | 33 => 55 | 4 => 4 | n => n, fun | n => n⟩
theorem Try.keys64 : Go.Proofs.SlLaysZ.n7 Try.prog Try.keys64_ren := {
  mixed := by kernel_rfl
  f7 := ⟨Try.f64.name, by decide, Try.func64.trans (congrArg some (by kernel_rfl))⟩
  f10 := ⟨Try.f70.name, by decide, Try.func70.trans (congrArg some (by kernel_rfl))⟩
  t0 := Try.underlying0
  a0 := Try.isAgg0
  z0 := Try.sizeOf0
  v0 := Try.zeroValue0
  t4 := Try.underlying4
  a4 := Try.isAgg4
  z4 := Try.sizeOf4
  v4 := Try.zeroValue4
  t23 := Try.underlying63
  a23 := Try.isAgg63
  z23 := Try.sizeOf63
  v23 := Try.zeroValue63
  t26 := Try.underlying9
  a26 := Try.isAgg9
  z26 := Try.sizeOf9
  v26 := Try.zeroValue9
  t27 := Try.underlying98
  a27 := Try.isAgg98
  z27 := Try.sizeOf98
  v27 := Try.zeroValue98
  t28 := Try.underlying99
  a28 := Try.isAgg99
  z28 := Try.sizeOf99
  v28 := Try.zeroValue99
  t33 := Try.underlying55
  a33 := Try.isAgg55
  z33 := Try.sizeOf55
  v33 := Try.zeroValue55 }
def Try.sorted63_ren : Go.Shelf.Ren := ⟨fun | 6 => 63 | 8 => 68 | 9 => 69 | 11 => 71 | 13 => 73 | 12 => 72 | 23 => 83 | 24 => 84 | 14 => 74 | 15 => 75 | 16 => 76 | 17 => 77 | 18 => 78 | 19 => 79 | 20 => 80 | 21 => 81 | 22 => 82 | 25 => 85 | 26 => 86 | 27 => 87 | 28 => 88 | 29 => 89 | 30 => 90 | 31 => 91 | n => n, fun | 26 => 9 | 28 => 99 | 24 => 47 | 0 => 0 | 3 => 3 | 37 => 107 | 48 => 118 | 50 => 52 | 4 => 4 | 40 => 110 | 39 => 109 | 45 => 115 | 5 => 5 | 9 => 9 | 51 => 120 | 55 => 124 | 57 => 126 | 58 => 127 | 33 => 55 | n => n, fun | n => n⟩
theorem Try.sorted63 : Go.Proofs.SlLaysZ.n6 Try.prog Try.sorted63_ren := {
  mixed := by kernel_rfl
  f6 := ⟨Try.f63.name, by decide, Try.func63.trans (congrArg some (by kernel_rfl))⟩
  f8 := ⟨Try.f68.name, by decide, Try.func68.trans (congrArg some (by kernel_rfl))⟩
  f11 := ⟨Try.f71.name, by decide, Try.func71.trans (congrArg some (by kernel_rfl))⟩
  t0 := Try.underlying0
  a0 := Try.isAgg0
  z0 := Try.sizeOf0
  v0 := Try.zeroValue0
  t24 := Try.underlying47
  a24 := Try.isAgg47
  z24 := Try.sizeOf47
  v24 := Try.zeroValue47
  t26 := Try.underlying9
  a26 := Try.isAgg9
  z26 := Try.sizeOf9
  v26 := Try.zeroValue9
  t28 := Try.underlying99
  a28 := Try.isAgg99
  z28 := Try.sizeOf99
  v28 := Try.zeroValue99
  i26 := by kernel_rfl }
def Try.sort69_ren : Go.Shelf.Ren := ⟨fun | 6 => 69 | 8 => 73 | 9 => 72 | 19 => 83 | 20 => 84 | 21 => 74 | 22 => 75 | 23 => 76 | 24 => 77 | 25 => 78 | 26 => 79 | 27 => 80 | 28 => 81 | 29 => 82 | 36 => 85 | 31 => 86 | 32 => 87 | 37 => 88 | 38 => 89 | 39 => 90 | 41 => 91 | n => n, fun | 27 => 47 | 29 => 9 | 3 => 3 | 32 => 107 | 26 => 47 | 0 => 0 | 44 => 118 | 46 => 52 | 4 => 4 | 36 => 110 | 35 => 109 | 41 => 115 | 5 => 5 | 9 => 9 | 53 => 120 | 57 => 124 | 63 => 126 | 64 => 127 | n => n, fun | n => n⟩
theorem Try.sort69 : Go.Proofs.SlLaysM.n6 Try.prog Try.sort69_ren := {
  mixed := by kernel_rfl
  f6 := ⟨Try.f69.name, by decide, Try.func69.trans (congrArg some (by kernel_rfl))⟩
  f8 := Try.func73.trans (congrArg some (by kernel_rfl))
  f9 := ⟨Try.f72.name, by decide, Try.func72.trans (congrArg some (by kernel_rfl))⟩
  f19 := Try.func83.trans (congrArg some (by kernel_rfl))
  f20 := Try.func84.trans (congrArg some (by kernel_rfl))
  f21 := ⟨Try.f74.name, by decide, Try.func74.trans (congrArg some (by kernel_rfl))⟩
  f22 := ⟨Try.f75.name, by decide, Try.func75.trans (congrArg some (by kernel_rfl))⟩
  f23 := ⟨Try.f76.name, by decide, Try.func76.trans (congrArg some (by kernel_rfl))⟩
  f24 := ⟨Try.f77.name, by decide, Try.func77.trans (congrArg some (by kernel_rfl))⟩
  f25 := ⟨Try.f78.name, by decide, Try.func78.trans (congrArg some (by kernel_rfl))⟩
  f26 := ⟨Try.f79.name, by decide, Try.func79.trans (congrArg some (by kernel_rfl))⟩
  f27 := ⟨Try.f80.name, by decide, Try.func80.trans (congrArg some (by kernel_rfl))⟩
  f28 := ⟨Try.f81.name, by decide, Try.func81.trans (congrArg some (by kernel_rfl))⟩
  f29 := ⟨Try.f82.name, by decide, Try.func82.trans (congrArg some (by kernel_rfl))⟩
  f31 := Try.func86.trans (congrArg some (by kernel_rfl))
  f32 := Try.func87.trans (congrArg some (by kernel_rfl))
  f36 := ⟨Try.f85.name, by decide, Try.func85.trans (congrArg some (by kernel_rfl))⟩
  f37 := ⟨Try.f88.name, by decide, Try.func88.trans (congrArg some (by kernel_rfl))⟩
  f38 := ⟨Try.f89.name, by decide, Try.func89.trans (congrArg some (by kernel_rfl))⟩
  f39 := ⟨Try.f90.name, by decide, Try.func90.trans (congrArg some (by kernel_rfl))⟩
  f41 := ⟨Try.f91.name, by decide, Try.func91.trans (congrArg some (by kernel_rfl))⟩
  t0 := Try.underlying0
  a0 := Try.isAgg0
  z0 := Try.sizeOf0
  v0 := Try.zeroValue0
  t3 := Try.underlying3
  a3 := Try.isAgg3
  z3 := Try.sizeOf3
  v3 := Try.zeroValue3
  t4 := Try.underlying4
  a4 := Try.isAgg4
  z4 := Try.sizeOf4
  v4 := Try.zeroValue4
  t5 := Try.underlying5
  a5 := Try.isAgg5
  z5 := Try.sizeOf5
  v5 := Try.zeroValue5
  t9 := Try.underlying9
  a9 := Try.isAgg9
  z9 := Try.sizeOf9
  v9 := Try.zeroValue9
  t26 := Try.underlying47
  a26 := Try.isAgg47
  z26 := Try.sizeOf47
  v26 := Try.zeroValue47
  t27 := Try.underlying47
  a27 := Try.isAgg47
  z27 := Try.sizeOf47
  v27 := Try.zeroValue47
  t29 := Try.underlying9
  a29 := Try.isAgg9
  z29 := Try.sizeOf9
  v29 := Try.zeroValue9
  t32 := Try.underlying107
  a32 := Try.isAgg107
  z32 := Try.sizeOf107
  v32 := Try.zeroValue107
  t35 := Try.underlying109
  a35 := Try.isAgg109
  z35 := Try.sizeOf109
  v35 := Try.zeroValue109
  t36 := Try.underlying110
  a36 := Try.isAgg110
  z36 := Try.sizeOf110
  v36 := Try.zeroValue110
  t41 := Try.underlying115
  a41 := Try.isAgg115
  z41 := Try.sizeOf115
  v41 := Try.zeroValue115
  t44 := Try.underlying118
  a44 := Try.isAgg118
  z44 := Try.sizeOf118
  v44 := Try.zeroValue118
  t46 := Try.underlying52
  a46 := Try.isAgg52
  z46 := Try.sizeOf52
  v46 := Try.zeroValue52
  t53 := Try.underlying120
  a53 := Try.isAgg120
  z53 := Try.sizeOf120
  v53 := Try.zeroValue120
  t57 := Try.underlying124
  a57 := Try.isAgg124
  z57 := Try.sizeOf124
  v57 := Try.zeroValue124
  t63 := Try.underlying126
  a63 := Try.isAgg126
  z63 := Try.sizeOf126
  v63 := Try.zeroValue126
  t64 := Try.underlying127
  a64 := Try.isAgg127
  z64 := Try.sizeOf127
  v64 := Try.zeroValue127 }

theorem Try.sorts63 (m : Nat) : AnyZ.SortsIn Try.prog Try.sorted63_ren Fence.wide m :=
  ⟨fun blk off cap ss W hH hblk hsz => callsIn_wide.2 (AnyM.slices_Sort_string Try.sort69 blk off cap ss W hH hblk hsz),
   fun p cap W => callsIn_wide.2 (AnyM.slices_Sort_string_none Try.sort69 p cap W)⟩

theorem Try.maps_Keys_64 (mb : Option Nat) (W : World) : CallsIn Fence.wide 5 Try.prog 64 #[.map mb] W fun e w' => e = .returned (.func (.func 70) #[] #[.pointer (some ⟨W.heap.size, 0, none⟩)]) ∧ w' = W.alloc (.cells #[.map mb] 63) :=
  AnyZ.keys_in Try.keys64 Fence.wide 5 trivial rfl mb W

set_option maxHeartbeats 1000000 in
theorem Try.slices_Sorted_keys_63_64 {H : Type} (b nn : Nat) (D0 : DataW H) (R : Value → Option (DataW H × List MemPlace)) (w : World) (hown : w.ownsMap Try.prog 9 R b nn D0) (hmax : Maps.size D0 ≤ maxLen) (hbytes : Maps.size D0 * 16 ≤ 140737488355328) :
    CallsIn Fence.wide 5 Try.prog 63 #[.func (.func 70) #[] #[.pointer (some ⟨w.heap.size, 0, none⟩)]] (w.alloc (.cells #[.map (some b)] 63)) fun e w' => ∃ (v : Value) (ss : List (List UInt8)), e = .returned v ∧ ss.Perm (strKeys D0) ∧
      w'.ownsRow (w.alloc (.cells #[.map (some b)] 63)).heap.size 9 1 v ss.length ((ss.mergeSort (fun x y => decide (x ≤ y))).map encStr) ∧ (v = .slice none 0 0 ↔ ss = []) ∧ Below (w.alloc (.cells #[.map (some b)] 63)).heap.size (w.alloc (.cells #[.map (some b)] 63)) w' := by
  have hbl := hown.lt
  have hseq : SeqGives Fence.wide 2 Try.prog 70 #[.pointer (some ⟨w.heap.size, 0, none⟩)] encStr (fun ss => ss.Perm (strKeys D0)) (Maps.size D0) (w.alloc (.cells #[.map (some b)] 63)) :=
    AnyZ.keys_gives (ρ := Try.keys64_ren) { Try.keys64 with } Fence.wide _ trivial rfl (by omega) w.heap.size b nn D0 _ (by simp) (by simp) (by
      obtain ⟨es, clock, hb, Ft, hs, hD⟩ := hown
      exact ⟨es, clock, (Below.heap_alloc _ _ b hbl).trans hb, Ft, hs, hD⟩)
  exact AnyZ.sorted_in Try.sorted63 Fence.wide 5 trivial trivial trivial trivial rfl (by omega) (Try.sorts63 _) (enters_of Try.func69 (by kernel_rfl) rfl) 70 #[.pointer (some ⟨w.heap.size, 0, none⟩)] trivial (enters_of Try.func70 (by kernel_rfl) rfl) _ _ hmax hbytes _ hseq

set_option maxHeartbeats 1000000 in
theorem Try.slices_Sorted_keys_nil_63_64 (w : World) :
    CallsIn Fence.wide 5 Try.prog 63 #[.func (.func 70) #[] #[.pointer (some ⟨w.heap.size, 0, none⟩)]] (w.alloc (.cells #[.map none] 63)) fun e w' => ∃ (v : Value) (ss : List (List UInt8)), e = .returned v ∧ ss = [] ∧
      w'.ownsRow (w.alloc (.cells #[.map none] 63)).heap.size 9 1 v ss.length ((ss.mergeSort (fun x y => decide (x ≤ y))).map encStr) ∧ (v = .slice none 0 0 ↔ ss = []) ∧ Below (w.alloc (.cells #[.map none] 63)).heap.size (w.alloc (.cells #[.map none] 63)) w' := by
  have hseq : SeqGives Fence.wide 2 Try.prog 70 #[.pointer (some ⟨w.heap.size, 0, none⟩)] encStr (fun ss : List (List UInt8) => ss = []) 0 (w.alloc (.cells #[.map none] 63)) :=
    AnyZ.keys_gives_nil (ρ := Try.keys64_ren) { Try.keys64 with } Fence.wide _ trivial rfl w.heap.size _ (by simp) (by simp)
  exact AnyZ.sorted_in Try.sorted63 Fence.wide 5 trivial trivial trivial trivial rfl (by omega) (Try.sorts63 _) (enters_of Try.func69 (by kernel_rfl) rfl) 70 #[.pointer (some ⟨w.heap.size, 0, none⟩)] trivial (enters_of Try.func70 (by kernel_rfl) rfl) _ 0 (Nat.zero_le _) (by omega) _ hseq



end Go.Proofs
end
/- Disk: each: every file in its name's order. -/
section
namespace Go.Proofs.Ytghdiemihceaoaa
open Go.ChangeShapes Go.WideShapes Go.ChangeAt Go.RowKit Go.Maps

def str (x : Nm) : ByteArray := ⟨x.toArray⟩
theorem str_list (x : Nm) : (str x).data.toList = x := rfl
theorem str_size (x : Nm) : (str x).size = x.length := rfl
theorem names_shape {w : World} {base n : Nat} {v : Value} {l : List Nm} (h : w.ownsRow base 9 1 v n (l.map encStr)) (hl : l.length = n) :
    ∃ sp c, v = .slice sp n c ∧ ∀ i (hi : i < l.length), ∃ g, sp = some ⟨g, 0, none⟩ ∧ base ≤ g ∧ g < w.heap.size ∧ ∀ w' : World, w'.heap[g]? = w.heap[g]? → w'.cell? ⟨g, i, none⟩ = some (.string (str l[i])) := by
  rcases h.2 with ⟨hv, h0⟩ | ⟨g, cap, cur, hv, hb, hg, hle, hmx, hsz, ht⟩
  · exact ⟨none, 0, by rw [hv, h0], fun i hi => by omega⟩
  · refine ⟨some ⟨g, 0, none⟩, cap, hv, fun i hi => ⟨g, rfl, hb, (Array.getElem?_eq_some_iff.1 hg).1, fun w' hw => ?_⟩⟩
    rw [cell_of_row w' g i cur _ _ (hw.trans hg)]
    have e : (l.map encStr)[i]? = some (.string (str l[i])) := by rw [List.getElem?_map, List.getElem?_eq_getElem hi]; rfl
    rw [← ht, List.getElem?_take, if_pos (by omega)] at e
    rw [← Array.getElem?_toList, e]
theorem DiskAt.c1 {base d M room N : Nat} {w : World} {fs : List Fe} (h : DiskAt base w d M room N fs) : w.cell? ⟨d, 1, none⟩ = some (.map (some M)) := fcell h.box 1 _ rfl
theorem DiskAt.c0 {base d M room N : Nat} {w : World} {fs : List Fe} (h : DiskAt base w d M room N fs) : w.cell? ⟨d, 0, none⟩ = some (.int .i64 (room : Int)) := fcell h.box 0 _ rfl
set_option maxRecDepth 20000 in
set_option maxHeartbeats 40000000 in
theorem each_calls (base d M room N : Nat) (w : World) (fs : List Fe) (h : DiskAt base w d M room N fs) (K : Nat) (caps : Array Value) (hK : ∀ (c : Array Value) (w : World), (callFunc K c).run Try.prog w = .ok (.enter K c) w) (Post : World → Prop)
    (hv : ∀ W0, Below w.heap.size w W0 → ∃ I : Nat → World → Prop, I 0 W0 ∧ (∀ i w1, I i w1 → ∀ g, w.heap.size ≤ g → g < W0.heap.size → w1.heap[g]? = W0.heap[g]?) ∧
      (∀ i (hi : i < fs.length) w1, I i w1 → w1.cell? ⟨d, 1, none⟩ = some (.map (some M)) ∧ (Instr.lookup 63 (.map (some M)) (.string (str fs[i].1)) false).run Try.prog w1 = .ok (.pointer (some ⟨fs[i].2.1, 0, none⟩)) w1 ∧
        Calls Try.prog K (#[.string (str fs[i].1), .pointer (some ⟨fs[i].2.1, 0, none⟩)] ++ caps) w1 fun e w2 => e = .returned (.tuple #[]) ∧ I (i + 1) w2) ∧
      (∀ w1, I fs.length w1 → Post w1)) :
    Calls Try.prog 51 #[.pointer (some ⟨d, 0, none⟩), .func (.func K) #[] caps] w fun e w' => e = .returned (.tuple #[]) ∧ Post w' := by
  obtain ⟨D, hD, hDs, hDk⟩ := h.map.keys (h.rise.map _)
  have hfl : (ptrs fs).length = fs.length := by simp [ptrs]
  have hf16 := h.few
  have c1 := h.c1
  have CK := hide (callsIn_wide.1 (Try.maps_Keys_64 (some M) w))
  have CS := hide (callsIn_wide.1 (Try.slices_Sorted_keys_63_64 M _ D fileElem w hD (by rw [hDs, hfl]; simp only [maxLen]; omega) (by rw [hDs, hfl]; omega)))
  have HN := hide (fun ss (hp : List.Perm ss (strKeys D)) => show (ss.mergeSort (fun x y => decide (x ≤ y))) = fs.map (·.1) by rw [hDk ss hp]; simp [ptrs])
  have HV := hide hv
  have b0 : Below w.heap.size w (w.alloc (.cells #[.map (some M)] 63)) := (Below.refl _ _).alloc (Nat.le_refl _) _
  have B0 := hide b0
  clear h hv hD hDs hDk b0 hfl
  go_enter Try.func51, Try.ntmps51
  go_wp2_with (first
    | (go_at_call 64; refine (unhide CK).mono ?_; rintro e w' ⟨rfl, rfl⟩)
    | (go_at_call 63; refine (unhide CS).mono ?_; rintro e W0 ⟨v, ss, rfl, hp, hrow, hnil, hb⟩; rw [unhide HN ss hp] at hrow; have hlen : ss.length = fs.length := (by have := congrArg List.length (unhide HN ss hp); rw [List.length_mergeSort, List.length_map] at this; exact this); rw [hlen] at hrow; obtain ⟨sp, cap, rfl, hcell⟩ := names_shape hrow (by simp); obtain ⟨I, hI0, hIk, hIs, hIe⟩ := unhide HV W0 ((unhide B0).trans (hb.mono (unhide B0).size)); have HC := hide hcell; have H0 := hide hI0; have HIK := hide hIk; have HIS := hide hIs; have HIE := hide hIe; have HS := hide (show w.heap.size ≤ (w.alloc (.cells #[.map (some M)] 63)).heap.size from (unhide B0).size); clear hp hrow hnil hb hlen hcell hI0 hIk hIs hIe))
  have hlm : (fs.map (·.1)).length = fs.length := by simp
  go_loopw [13] (fun i wr => ∃ j : Nat, j ≤ fs.length ∧ i = .int .i64 (j : Int) ∧ Hid (I j wr)) (fun i _ => fs.length - (intOf i).toNat)
  case atStart => exact ⟨0, by omega, rfl, H0⟩
  case round =>
    obtain ⟨j, hj, rfl, HI⟩ := hrel
    by_cases hjn : j < fs.length
    · have hj0 : (0 : Int) ≤ (j : Int) := by omega
      have hj1 : (j : Int) < (fs.length : Int) := by omega
      obtain ⟨g, rfl, hg1, hg2, hgc⟩ := unhide HC j (by rw [hlm]; exact hjn)
      have p0 := hgc wr (unhide HIK j wr (unhide HI) g (Nat.le_trans (unhide HS) hg1) hg2)
      rw [List.getElem_map] at p0
      obtain ⟨q1, q2, q3⟩ := unhide HIS j hjn wr (unhide HI)
      generalize str fs[j].1 = nm at *
      generalize fs[j].2.1 = F at *
      have Q3 := hide q3
      clear q3 hgc
      go_wp2_with fail
      refine (unhide Q3).mono ?_
      rintro e w2 ⟨rfl, hI2⟩
      have HI2 := hide hI2
      clear hI2
      go_wp2
      exact ⟨⟨j + 1, by omega, by go_num, unhide HI2⟩, by simp [intOf]; omega⟩
    · have hj2 : ¬ ((j : Int) < (fs.length : Int)) := by omega
      obtain rfl : j = fs.length := by omega
      go_wp2
      go_end0
      exact ⟨rfl, unhide HIE _ (unhide HI)⟩
end Go.Proofs.Ytghdiemihceaoaa
end
