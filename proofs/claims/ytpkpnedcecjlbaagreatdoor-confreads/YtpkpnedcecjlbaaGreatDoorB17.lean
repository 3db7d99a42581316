/- Conf, plain: rows of things by keys that rise, whatever the keys' order is. -/
import Derived.Test.YtpkpnedcecjlbaaGreatDoorProg
import Derived.Maps.OwnSet
import Derived.Maps.Views
import Derived.StringKeys
import Derived.ProofKit
import Derived.OpenShut
import Derived.Below
import Derived.WalkKit
import Derived.Test.YtpkpnedcecjlbaaGreatDoorB02
import Derived.DeepKeys4
import Derived.Sort.KeysCollected
import Derived.Shelf.SlSortCmp.WholeK
import Derived.Ground.SlsfProg
section
namespace Go.Proofs.YtpkpnedcecjlbaaGreatDoor

/-- An order in which of two keys one is less, or they are one. -/
class Kord (κ : Type) where
  lt : κ → κ → Prop
  irr : ∀ a, ¬ lt a a
  tr : ∀ {a b c}, lt a b → lt b c → lt a c
  tri : ∀ a b, lt a b ∨ a = b ∨ lt b a
  dlt : ∀ a b, Decidable (lt a b)
  deq : DecidableEq κ
instance instDlt {κ : Type} [Kord κ] (a b : κ) : Decidable (Kord.lt a b) := Kord.dlt a b
instance instDeq {κ : Type} [Kord κ] : DecidableEq κ := Kord.deq
theorem bytes_ext {a b : ByteArray} (h : a.data.toList = b.data.toList) : a = b := by
  cases a; cases b; simp only [ByteArray.mk.injEq] at *; exact Array.toList_inj.1 h
instance : Kord ByteArray where
  lt a b := a.data.toList < b.data.toList
  irr a := List.lt_irrefl _
  tr h k := List.lt_trans h k
  tri a b := by
    by_cases h : a.data.toList < b.data.toList
    · exact .inl h
    · by_cases k : b.data.toList < a.data.toList
      · exact .inr (.inr k)
      · exact .inr (.inl (bytes_ext (List.le_antisymm (List.not_lt.1 k) (List.not_lt.1 h))))
  dlt a b := inferInstanceAs (Decidable (a.data.toList < b.data.toList))
  deq := inferInstance
instance : Kord Nat where
  lt a b := a < b
  irr := Nat.lt_irrefl
  tr h k := Nat.lt_trans h k
  tri := Nat.lt_trichotomy
  dlt a b := inferInstanceAs (Decidable (a < b))
  deq := inferInstance
instance {α β : Type} [Kord α] [Kord β] : Kord (α × β) where
  lt a b := Kord.lt a.1 b.1 ∨ (a.1 = b.1 ∧ Kord.lt a.2 b.2)
  irr a h := h.elim (Kord.irr _) (fun k => Kord.irr _ k.2)
  tr := by
    rintro a b c (h | ⟨e, h⟩) (k | ⟨f, k⟩)
    · exact .inl (Kord.tr h k)
    · exact .inl (f ▸ h)
    · exact .inl (by rw [e]; exact k)
    · exact .inr ⟨e.trans f, Kord.tr h k⟩
  tri a b := by
    rcases Kord.tri a.1 b.1 with h | h | h
    · exact .inl (.inl h)
    · rcases Kord.tri a.2 b.2 with k | k | k
      · exact .inl (.inr ⟨h, k⟩)
      · exact .inr (.inl (Prod.ext h k))
      · exact .inr (.inr (.inr ⟨h.symm, k⟩))
    · exact .inr (.inr (.inl h))
  dlt a b := inferInstanceAs (Decidable (Kord.lt a.1 b.1 ∨ (a.1 = b.1 ∧ Kord.lt a.2 b.2)))
  deq := inferInstance
section
variable {κ α β : Type} [Kord κ]
def Kr (fs : List (κ × α)) : Prop := fs.Pairwise (fun x y => Kord.lt x.1 y.1)
def kput (k : κ) (v : α) : List (κ × α) → List (κ × α)
  | [] => [(k, v)]
  | x :: r => if Kord.lt x.1 k then x :: kput k v r else if x.1 = k then (k, v) :: r else (k, v) :: x :: r
def kdel (k : κ) (fs : List (κ × α)) : List (κ × α) := fs.filter (fun x => decide (x.1 ≠ k))
def kget (k : κ) : List (κ × α) → Option α
  | [] => none
  | x :: r => if x.1 = k then some x.2 else kget k r
theorem Kr.nodup {fs : List (κ × α)} (h : Kr fs) : (fs.map (·.1)).Nodup := by
  rw [List.Nodup, List.pairwise_map]
  refine List.Pairwise.imp ?_ (show fs.Pairwise (fun x y => Kord.lt x.1 y.1) from h)
  intro a b hab e
  rw [e] at hab
  exact Kord.irr _ hab
theorem Kr.one {fs : List (κ × α)} (h : Kr fs) {x y : κ × α} (hx : x ∈ fs) (hy : y ∈ fs) (e : x.1 = y.1) : x = y := by
  induction fs with
  | nil => simp at hx
  | cons z r ih =>
    have h1 := List.pairwise_cons.1 h
    rcases List.mem_cons.1 hx with hx | hx <;> rcases List.mem_cons.1 hy with hy | hy
    · rw [hx, hy]
    · exact absurd (show Kord.lt y.1 y.1 by have := h1.1 y hy; rw [← hx, e] at this; exact this) (Kord.irr _)
    · exact absurd (show Kord.lt y.1 y.1 by have := h1.1 x hx; rw [← hy, e] at this; exact this) (Kord.irr _)
    · exact ih h1.2 hx hy
theorem mem_kput {k : κ} {v : α} : ∀ {fs : List (κ × α)}, Kr fs → ∀ y, y ∈ kput k v fs ↔ (y = (k, v) ∨ (y ∈ fs ∧ y.1 ≠ k))
  | [], _, y => by simp [kput]
  | x :: r, h, y => by
    have h1 := List.pairwise_cons.1 h
    have hr : ∀ {z}, z ∈ r → ¬ Kord.lt x.1 k → z.1 ≠ k := fun {z} hz hn e => hn (e ▸ h1.1 z hz)
    unfold kput
    by_cases h2 : Kord.lt x.1 k
    · rw [if_pos h2, List.mem_cons, mem_kput h1.2 y, List.mem_cons]
      have : x.1 ≠ k := fun e => Kord.irr _ (e ▸ h2)
      constructor
      · rintro (rfl | h | h)
        · exact .inr ⟨.inl rfl, this⟩
        · exact .inl h
        · exact .inr ⟨.inr h.1, h.2⟩
      · rintro (h | ⟨rfl | h, hk⟩)
        · exact .inr (.inl h)
        · exact .inl rfl
        · exact .inr (.inr ⟨h, hk⟩)
    · rw [if_neg h2]
      by_cases h3 : x.1 = k
      · rw [if_pos h3, List.mem_cons, List.mem_cons]
        constructor
        · rintro (h | h)
          · exact .inl h
          · exact .inr ⟨.inr h, hr h h2⟩
        · rintro (h | ⟨rfl | h, hk⟩)
          · exact .inl h
          · exact absurd h3 hk
          · exact .inr h
      · rw [if_neg h3, List.mem_cons, List.mem_cons]
        constructor
        · rintro (h | rfl | h)
          · exact .inl h
          · exact .inr ⟨.inl rfl, h3⟩
          · exact .inr ⟨.inr h, hr h h2⟩
        · rintro (h | ⟨h, hk⟩)
          · exact .inl h
          · exact .inr h
theorem Kr.put {fs : List (κ × α)} (h : Kr fs) (k : κ) (v : α) : Kr (kput k v fs) := by
  induction fs with
  | nil => exact List.pairwise_singleton _ _
  | cons x r ih =>
    have h1 := List.pairwise_cons.1 h
    unfold kput
    by_cases h2 : Kord.lt x.1 k
    · rw [if_pos h2]
      refine List.pairwise_cons.2 ⟨fun y hy => ?_, ih h1.2⟩
      rcases (mem_kput h1.2 y).1 hy with rfl | ⟨hy, _⟩
      · exact h2
      · exact h1.1 y hy
    · rw [if_neg h2]
      by_cases h3 : x.1 = k
      · rw [if_pos h3]
        exact List.pairwise_cons.2 ⟨fun y hy => by have := h1.1 y hy; rw [h3] at this; exact this, h1.2⟩
      · rw [if_neg h3]
        have h4 : Kord.lt k x.1 := ((Kord.tri x.1 k).resolve_left h2).resolve_left h3
        refine List.pairwise_cons.2 ⟨fun y hy => ?_, h⟩
        rcases List.mem_cons.1 hy with rfl | hy
        · exact h4
        · exact Kord.tr h4 (h1.1 y hy)
theorem Kr.del {fs : List (κ × α)} (h : Kr fs) (k : κ) : Kr (kdel k fs) := h.sublist List.filter_sublist
theorem mem_kdel {fs : List (κ × α)} {k : κ} (y : κ × α) : y ∈ kdel k fs ↔ (y ∈ fs ∧ y.1 ≠ k) := by simp [kdel]
theorem kput_map (g : α → β) (k : κ) (v : α) : ∀ fs : List (κ × α), (kput k v fs).map (fun x => (x.1, g x.2)) = kput k (g v) (fs.map (fun x => (x.1, g x.2)))
  | [] => rfl
  | x :: r => by
    simp only [kput, List.map_cons]
    split
    · rw [List.map_cons, kput_map g k v r]
    · split <;> rfl
theorem kdel_map (g : α → β) (k : κ) (fs : List (κ × α)) : (kdel k fs).map (fun x => (x.1, g x.2)) = kdel k (fs.map (fun x => (x.1, g x.2))) := by
  simp only [kdel, List.filter_map]; rfl
theorem Kr.map (g : α → β) {fs : List (κ × α)} (h : Kr fs) : Kr (fs.map (fun x => (x.1, g x.2))) := List.pairwise_map.2 h
theorem kput_length {k : κ} {v : α} : ∀ {fs : List (κ × α)}, Kr fs → (kput k v fs).length = if k ∈ fs.map (·.1) then fs.length else fs.length + 1
  | [], _ => by simp [kput]
  | x :: r, h => by
    have h1 := List.pairwise_cons.1 h
    have ih := kput_length (k := k) (v := v) h1.2
    unfold kput
    by_cases h2 : Kord.lt x.1 k
    · have h3 : k ≠ x.1 := fun e => Kord.irr _ (e ▸ h2)
      rw [if_pos h2, List.length_cons, ih]
      simp only [List.map_cons, List.mem_cons, h3, false_or, List.length_cons]
      split <;> rfl
    · rw [if_neg h2]
      by_cases h3 : x.1 = k
      · rw [if_pos h3]; simp [h3]
      · rw [if_neg h3]
        have h4 : k ∉ (x :: r).map (·.1) := by
          intro hm
          simp only [List.map_cons, List.mem_cons] at hm
          rcases hm with e | hm
          · exact h3 e.symm
          · obtain ⟨z, hz, e⟩ := List.mem_map.1 hm
            exact h2 (e ▸ h1.1 z hz)
        rw [if_neg h4]; rfl
theorem kdel_length {k : κ} : ∀ {fs : List (κ × α)}, Kr fs → (kdel k fs).length + (if k ∈ fs.map (·.1) then 1 else 0) = fs.length
  | [], _ => by simp [kdel]
  | x :: r, h => by
    have h1 := List.pairwise_cons.1 h
    have ih := kdel_length (k := k) h1.2
    unfold kdel at ih ⊢
    rw [List.filter_cons]
    by_cases h3 : x.1 = k
    · have h4 : k ∉ r.map (·.1) := fun hm => by
        obtain ⟨z, hz, e⟩ := List.mem_map.1 hm
        have := h1.1 z hz
        rw [e, h3] at this
        exact Kord.irr _ this
      rw [if_neg h4] at ih
      simp [h3] at ih ⊢
      exact ih
    · have h5 : (k = x.1) = False := by simp; exact fun e => h3 e.symm
      rw [if_pos (by simpa using h3)]
      simp only [List.length_cons, List.map_cons, List.mem_cons, h5, false_or]
      omega
theorem kdel_none {k : κ} {fs : List (κ × α)} (h : k ∉ fs.map (·.1)) : kdel k fs = fs := by
  unfold kdel
  rw [List.filter_eq_self]
  intro x hx
  have : x.1 ≠ k := fun e => h (List.mem_map.2 ⟨x, hx, e⟩)
  simpa using this
theorem kget_none {k : κ} : ∀ {fs : List (κ × α)}, kget k fs = none ↔ k ∉ fs.map (·.1)
  | [] => by simp [kget]
  | x :: r => by
    unfold kget
    by_cases h : x.1 = k
    · simp [h]
    · rw [if_neg h, kget_none]
      have : ¬ k = x.1 := fun e => h e.symm
      simp only [List.map_cons, List.mem_cons, this, false_or]
theorem kget_mem {k : κ} {v : α} : ∀ {fs : List (κ × α)}, kget k fs = some v → (k, v) ∈ fs
  | [], h => by simp [kget] at h
  | x :: r, h => by
    unfold kget at h
    by_cases e : x.1 = k
    · rw [if_pos e] at h
      cases h
      rw [← e]
      exact List.mem_cons_self
    · rw [if_neg e] at h
      exact List.mem_cons_of_mem _ (kget_mem h)
theorem Kr.get {fs : List (κ × α)} (h : Kr fs) {k : κ} {v : α} (hm : (k, v) ∈ fs) : kget k fs = some v := by
  cases e : kget k fs with
  | none => exact absurd (List.mem_map.2 ⟨_, hm, rfl⟩) (kget_none.1 e)
  | some u =>
    have := h.one hm (kget_mem e) rfl
    simp only [Prod.mk.injEq, true_and] at this
    rw [this]
theorem kget_map (g : α → β) (k : κ) : ∀ fs : List (κ × α), kget k (fs.map (fun x => (x.1, g x.2))) = (kget k fs).map g
  | [] => rfl
  | x :: r => by
    simp only [kget, List.map_cons]
    split
    · rfl
    · exact kget_map g k r
/-- Two rows that rise and hold the same are one. -/
theorem Kr.ext : ∀ {fs gs : List (κ × α)}, Kr fs → Kr gs → (∀ y, y ∈ fs ↔ y ∈ gs) → fs = gs
  | [], [], _, _, _ => rfl
  | [], y :: r, _, _, h => by have := (h y).2 List.mem_cons_self; simp at this
  | x :: r, [], _, _, h => by have := (h x).1 List.mem_cons_self; simp at this
  | x :: r, y :: s, h1, h2, h => by
    have a1 := List.pairwise_cons.1 h1
    have a2 := List.pairwise_cons.1 h2
    have hxy : x = y := by
      rcases List.mem_cons.1 ((h x).1 List.mem_cons_self) with e | e
      · exact e
      · rcases List.mem_cons.1 ((h y).2 List.mem_cons_self) with f | f
        · exact f.symm
        · exact absurd (Kord.tr (a2.1 _ e) (a1.1 _ f)) (Kord.irr _)
    subst hxy
    rw [Kr.ext a1.2 a2.2 (fun z => ?_)]
    constructor
    · intro hz
      rcases List.mem_cons.1 ((h z).1 (List.mem_cons_of_mem _ hz)) with e | e
      · subst e; exact absurd (a1.1 _ hz) (Kord.irr _)
      · exact e
    · intro hz
      rcases List.mem_cons.1 ((h z).2 (List.mem_cons_of_mem _ hz)) with e | e
      · subst e; exact absurd (a2.1 _ hz) (Kord.irr _)
      · exact e
/-- What stands ahead of a key, the thing, what stands behind it. -/
theorem kput_split {k : κ} {v : α} : ∀ {fs : List (κ × α)}, Kr fs → kput k v fs = fs.filter (fun x => decide (Kord.lt x.1 k)) ++ (k, v) :: fs.filter (fun x => decide (Kord.lt k x.1))
  | [], _ => rfl
  | x :: r, h => by
    have h1 := List.pairwise_cons.1 h
    unfold kput
    by_cases h2 : Kord.lt x.1 k
    · have h3 : ¬ Kord.lt k x.1 := fun e => Kord.irr _ (Kord.tr h2 e)
      rw [if_pos h2, kput_split h1.2, List.filter_cons_of_pos (by simpa using h2), List.filter_cons_of_neg (by simpa using h3)]
      rfl
    · have h4 : ∀ y ∈ r, ¬ Kord.lt y.1 k := fun y hy e => h2 (Kord.tr (h1.1 y hy) e)
      have h5 : r.filter (fun x => decide (Kord.lt x.1 k)) = [] := by
        rw [List.filter_eq_nil_iff]; intro y hy; simpa using h4 y hy
      rw [if_neg h2, List.filter_cons_of_neg (by simpa using h2), h5, List.nil_append]
      by_cases h3 : x.1 = k
      · have h6 : ∀ y ∈ r, Kord.lt k y.1 := fun y hy => h3 ▸ h1.1 y hy
        have h7 : r.filter (fun x => decide (Kord.lt k x.1)) = r := by
          rw [List.filter_eq_self]; intro y hy; simpa using h6 y hy
        rw [if_pos h3, List.filter_cons_of_neg (by rw [h3]; simpa using Kord.irr k), h7]
      · have h8 : Kord.lt k x.1 := ((Kord.tri x.1 k).resolve_left h2).resolve_left h3
        have h7 : r.filter (fun x => decide (Kord.lt k x.1)) = r := by
          rw [List.filter_eq_self]; intro y hy; simpa using Kord.tr h8 (h1.1 y hy)
        rw [if_neg h3, List.filter_cons_of_pos (by simpa using h8), h7]
theorem kput_kdel {k : κ} {v : α} {fs : List (κ × α)} (h : Kr fs) : kput k v (kdel k fs) = kput k v fs := by
  refine Kr.ext ((h.del k).put k v) (h.put k v) (fun y => ?_)
  rw [mem_kput (h.del k), mem_kput h, mem_kdel]
  constructor
  · rintro (e | ⟨⟨a, b⟩, _⟩)
    · exact .inl e
    · exact .inr ⟨a, b⟩
  · rintro (e | ⟨a, b⟩)
    · exact .inl e
    · exact .inr ⟨⟨a, b⟩, b⟩
end
end Go.Proofs.YtpkpnedcecjlbaaGreatDoor
end
/- Maps in memory, told by a row of keys that rise; their elements are values as they lie. -/
section
namespace Go.Proofs.YtpkpnedcecjlbaaGreatDoor
open Go.ChangeShapes Go.WideShapes Go.ChangeAt Go.RowKit Go.Maps

instance : Kord Int where
  lt a b := a < b
  irr := Int.lt_irrefl
  tr h k := Int.lt_trans h k
  tri := Int.lt_trichotomy
  dlt a b := inferInstanceAs (Decidable (a < b))
  deq := inferInstance
def valElem (v : Value) : Option (DataW Value × List MemPlace) := some (.held v, [])
theorem valElem_inv {v u : Value} {ps : List MemPlace} (h : valElem v = some (.held u, ps)) : v = u := by
  simp only [valElem, Option.some.injEq, Prod.mk.injEq, DataW.held.injEq] at h
  exact h.1
/-- How keys lie, and what they read as. -/
structure Kx (P : Program) (K : TypeId) (κ : Type) where
  kv : κ → Value
  kl : κ → Lit
  ok : κ → Prop
  law : Keyed P K
  key : ∀ {k}, ok k → keyOf P K (kv k) = some (kl k)
  vinj : ∀ {a b}, kv a = kv b → a = b
  inv : ∀ {v l}, keyOf P K v = some l → ∃ k, ok k ∧ v = kv k ∧ l = kl k
theorem mapTight {H : Type} {P : Program} {k : TypeId} {R : Value → Option (DataW H × List MemPlace)} {w : World} {b n : Nat} {D : DataW H} (h : w.ownsMap P k R b n D) : w.ownsMap P k R b (Maps.size D) D := by
  obtain ⟨es, clock, hb, F, hs, rfl⟩ := h
  refine ⟨es, clock, hb, F, ?_, rfl⟩
  simp [Maps.size, length_sorted]
theorem Kx.inj {P : Program} {K : TypeId} {κ : Type} (X : Kx P K κ) {a b : κ} (ha : X.ok a) (hb : X.ok b) (h : X.kl a = X.kl b) : a = b := X.vinj (X.law.inj (X.key ha) (h ▸ X.key hb))
section
variable {P : Program} {K : TypeId} {κ : Type} [Kord κ]
structure MapG (X : Kx P K κ) (w : World) (B : Nat) (fs : List (κ × Value)) : Prop where
  map : ∃ D : DataW Value, w.ownsMap P K valElem B fs.length D ∧ (∀ k, X.ok k → (Maps.has D (X.kl k) = true ↔ k ∈ fs.map (·.1))) ∧ (∀ x ∈ fs, ∀ zd, D.atKey (X.kl x.1) zd = .held x.2) ∧ Maps.size D = fs.length
  okk : ∀ x ∈ fs, X.ok x.1
  rise : Kr fs
variable {X : Kx P K κ} {w w' : World} {B : Nat} {fs : List (κ × Value)}
theorem MapG.same (h : MapG X w B fs) (hb : w'.heap[B]? = w.heap[B]?) : MapG X w' B fs := by
  obtain ⟨D, ⟨es, k, h1, r⟩, r2⟩ := h.map
  exact ⟨⟨D, ⟨es, k, hb.trans h1, r⟩, r2⟩, h.okk, h.rise⟩
theorem MapG.isMap (h : MapG X w B fs) : ∃ es k, w.heap[B]? = some (.map es k) := by
  obtain ⟨D, ⟨es, k, hb, _⟩, _⟩ := h.map
  exact ⟨es, k, hb⟩
theorem MapG.lt (h : MapG X w B fs) : B < w.heap.size := by
  obtain ⟨es, k, hb⟩ := h.isMap
  exact (Array.getElem?_eq_some_iff.1 hb).1
theorem MapG.later (h : MapG X w B fs) (hb : Below w.heap.size w w') : MapG X w' B fs := h.same (hb.block B h.lt)
theorem MapG.made (X : Kx P K κ) (w : World) : MapG X (w.alloc (.map #[] 0)) w.heap.size [] :=
  ⟨⟨_, World.ownsMap_made (H := Value) w P K valElem, fun _ _ => by simp [Maps.has], by simp, rfl⟩, by simp, List.Pairwise.nil⟩
theorem MapG.look_yes (h : MapG X w B fs) {T E : TypeId} {z : Value} (ht : P.underlying T = some (.map K E)) (hz : (zeroValue E).run P w = .ok z w) {k : κ} {v : Value} (hk : kget k fs = some v) :
    (Instr.lookup T (.map (some B)) (X.kv k) true).run P w = .ok (.tuple #[v, .bool true]) w ∧ (Instr.lookup T (.map (some B)) (X.kv k) false).run P w = .ok v w := by
  obtain ⟨D, hD, hH, hA, _⟩ := h.map
  have hF := kget_mem hk
  have hok := h.okk _ hF
  have hh : Maps.has D (X.kl k) = true := (hH _ hok).2 (List.mem_map.2 ⟨_, hF, rfl⟩)
  obtain ⟨a, ps, hrun, hv⟩ := hD.look_ok X.law ht hz (zd := .held z) (zp := []) rfl (X.key hok)
  obtain ⟨b, ps2, hrun2, hv2⟩ := hD.lookup X.law ht hz (zd := .held z) (zp := []) rfl (X.key hok)
  rw [hA _ hF] at hv hv2
  rw [valElem_inv hv, hh] at hrun
  rw [valElem_inv hv2] at hrun2
  exact ⟨hrun, hrun2⟩
theorem MapG.look_no (h : MapG X w B fs) {T E : TypeId} {z : Value} (ht : P.underlying T = some (.map K E)) (hz : (zeroValue E).run P w = .ok z w) {k : κ} (hok : X.ok k) (hk : kget k fs = none) :
    (Instr.lookup T (.map (some B)) (X.kv k) true).run P w = .ok (.tuple #[z, .bool false]) w ∧ (Instr.lookup T (.map (some B)) (X.kv k) false).run P w = .ok z w := by
  obtain ⟨D, hD, hH, hA, _⟩ := h.map
  have hF := kget_none.1 hk
  have hh : Maps.has D (X.kl k) = false := by
    cases e : Maps.has D (X.kl k) with
    | false => rfl
    | true => exact absurd ((hH _ hok).1 e) hF
  obtain ⟨a, ps, hrun, hv⟩ := hD.look_ok X.law ht hz (zd := .held z) (zp := []) rfl (X.key hok)
  obtain ⟨b, ps2, hrun2, hv2⟩ := hD.lookup X.law ht hz (zd := .held z) (zp := []) rfl (X.key hok)
  rw [atKey_of_not_has hh] at hv hv2
  rw [valElem_inv hv, hh] at hrun
  rw [valElem_inv hv2] at hrun2
  exact ⟨hrun, hrun2⟩
theorem MapG.len (h : MapG X w B fs) {T E : TypeId} (ht : P.underlying T = some (.map K E)) (ty : TypeId) : (Builtin.len_ #[T] ty #[.map (some B)]).run P w = .ok (.int .i64 (fs.length : Int)) w := by
  obtain ⟨D, hD, hH, hA, hS⟩ := h.map
  rw [← hS]
  exact hD.len ht ty
theorem MapG.store (h : MapG X w B fs) {T E : TypeId} (ht : P.underlying T = some (.map K E)) {k : κ} (hok : X.ok k) (v : Value) (hn : fs.length ≤ 1000) :
    ∃ w', (Instr.mapUpdate T (.map (some B)) (X.kv k) v).run P w = .ok () w' ∧ MapG X w' B (kput k v fs) ∧ w.grownBy w' (some B) ∧ w'.heap.size = w.heap.size := by
  obtain ⟨D, hD, hH, hA, hS⟩ := h.map
  have hr := h.rise
  obtain ⟨w', hrun, r1, r2⟩ := hD.store X.law ht (show fs.length < maxLen by simp only [maxLen]; omega) (X.key hok) (show valElem v = some (.held v, []) from rfl)
  have hmap := hD.isMap
  have hkey := X.law.key (X.key hok)
  have hsz : w'.heap.size = w.heap.size := by
    obtain ⟨_, _, _, _, _, rfl⟩ := r2
    simp [ChangeMaps.setBlock]
  have hSZ : Maps.size (D.put (X.kl k) (.held v)) = (kput k v fs).length := by
    rw [size_put (hD.tidy X.law), kput_length hr, hS]
    by_cases e : k ∈ fs.map (·.1)
    · rw [if_pos e, if_pos ((hH _ hok).2 e)]
    · rw [if_neg e, if_neg (fun e' => e ((hH _ hok).1 e'))]
  refine ⟨w', hrun, ⟨⟨_, by rw [← hSZ]; exact mapTight r1, fun y hy => ?_, fun y hy zd => ?_, hSZ⟩, fun y hy => ?_, hr.put _ _⟩, r2.grown, hsz⟩
  · by_cases e : y = k
    · subst e
      rw [has_put_same hmap hkey]
      simp only [true_iff]
      exact List.mem_map.2 ⟨_, (mem_kput hr _).2 (.inl rfl), rfl⟩
    · rw [has_put_other (fun e' => e (X.inj hy hok e')), hH y hy]
      constructor
      · intro hm
        obtain ⟨z, hz, rfl⟩ := List.mem_map.1 hm
        exact List.mem_map.2 ⟨z, (mem_kput hr _).2 (.inr ⟨hz, e⟩), rfl⟩
      · intro hm
        obtain ⟨z, hz, rfl⟩ := List.mem_map.1 hm
        rcases (mem_kput hr _).1 hz with rfl | ⟨hz, _⟩
        · exact absurd rfl e
        · exact List.mem_map.2 ⟨z, hz, rfl⟩
  · rcases (mem_kput hr _).1 hy with rfl | ⟨hy, e⟩
    · exact atKey_put_same hmap hkey _ _
    · rw [atKey_put_other (fun e' => e (X.inj (h.okk _ hy) hok e')), hA y hy]
  · rcases (mem_kput hr _).1 hy with rfl | ⟨hy, _⟩
    · exact hok
    · exact h.okk _ hy
theorem MapG.drop (h : MapG X w B fs) {T E : TypeId} (ht : P.underlying T = some (.map K E)) {k : κ} (hok : X.ok k) (ty : TypeId) :
    ∃ w', (Builtin.delete_ #[T, K] ty #[.map (some B), X.kv k]).run P w = .ok (.tuple #[]) w' ∧ MapG X w' B (kdel k fs) ∧ w.grownBy w' (some B) ∧ w'.heap.size = w.heap.size := by
  obtain ⟨D, hD, hH, hA, hS⟩ := h.map
  have hr := h.rise
  obtain ⟨w', hrun, r1, r2⟩ := hD.drop X.law ht (X.key hok) ty
  have hsz : w'.heap.size = w.heap.size := by
    obtain ⟨_, _, _, _, _, rfl⟩ := r2
    simp [ChangeMaps.setBlock]
  have hSZ : Maps.size (D.del (X.kl k)) = (kdel k fs).length := by
    have h1 := size_del (k := X.kl k) (hD.tidy X.law)
    have h2 := kdel_length (k := k) hr
    by_cases e : k ∈ fs.map (·.1)
    · rw [if_pos e] at h2
      rw [if_pos ((hH _ hok).2 e)] at h1
      omega
    · rw [if_neg e] at h2
      rw [if_neg (fun e' => e ((hH _ hok).1 e'))] at h1
      omega
  refine ⟨w', hrun, ⟨⟨_, by rw [← hSZ]; exact mapTight r1, fun y hy => ?_, fun y hy zd => ?_, hSZ⟩, fun y hy => h.okk _ ((mem_kdel y).1 hy).1, hr.del _⟩, r2.grown, hsz⟩
  · by_cases e : y = k
    · subst e
      rw [has_del_same]
      simp only [Bool.false_eq_true, false_iff]
      intro hm
      obtain ⟨z, hz, e⟩ := List.mem_map.1 hm
      exact ((mem_kdel z).1 hz).2 e
    · rw [has_del_other (fun e' => e (X.inj hy hok e')), hH y hy]
      constructor
      · intro hm
        obtain ⟨z, hz, rfl⟩ := List.mem_map.1 hm
        exact List.mem_map.2 ⟨z, (mem_kdel z).2 ⟨hz, e⟩, rfl⟩
      · intro hm
        obtain ⟨z, hz, rfl⟩ := List.mem_map.1 hm
        exact List.mem_map.2 ⟨z, ((mem_kdel z).1 hz).1, rfl⟩
  · obtain ⟨hy, e⟩ := (mem_kdel y).1 hy
    rw [atKey_del_other (fun e' => e (X.inj (h.okk _ hy) hok e')), hA y hy]
end
end Go.Proofs.YtpkpnedcecjlbaaGreatDoor
end
/- Conf: the keys of its three maps; zero values. -/
section
namespace Go.Proofs.YtpkpnedcecjlbaaGreatDoor
open Go.ChangeShapes Go.WideShapes Go.ChangeAt Go.RowKit Go.Maps
set_option linter.unusedVariables false

def kxS : Kx Tryz.prog 9 ByteArray where
  kv s := .string s
  kl s := .string s.data.toList
  ok s := s.size ≤ maxLen
  law := string_keyed Tryz.underlying9
  key h := WideMaps.keyOf_string_mk Tryz.underlying9 h
  vinj h := by simpa using h
  inv {v l} h := by
    cases v <;> simp [keyOf, Tryz.underlying9, mapKey] at h
    rename_i s
    exact ⟨s, h.1, rfl, h.2.symm⟩
def kxI : Kx Tryz.prog 3 Int where
  kv n := .int .i64 n
  kl n := .int .i64 n
  ok n := (Lit.int .i64 n).wf = true
  law := int_keyed Tryz.underlying3
  key h := keyOf_int_mk Tryz.underlying3 h
  vinj h := by simpa using h
  inv {v l} h := by
    cases v <;> simp [keyOf, Tryz.underlying3, mapKey] at h
    rename_i q n
    obtain ⟨⟨rfl, h1⟩, h2⟩ := h
    exact ⟨n, h1, rfl, h2.symm⟩
theorem claidOut : laidOutB Tryz.prog = true := by kernel_rfl
theorem placeLaw : Keyed Tryz.prog 98 := Keyed.of_law (deep_law_laid claidOut (m := Tryz.prog.types.size + 1) (of_decide_eq_true (by kernel_rfl)) (of_decide_eq_true (by kernel_rfl)) (by kernel_rfl) (by kernel_rfl))
def plV (p : ByteArray × ByteArray) : Value := .agg #[.string p.1, .string p.2]
def plL (p : ByteArray × ByteArray) : Lit := .string (keyBytes [.string p.1.data.toList, .string p.2.data.toList])
theorem keyLits_str (m : Nat) (v : Value) : Tryz.prog.keyLits (m + 1) 9 [v] = (match v with | .string s => if s.size ≤ maxLen then some [.string s.data.toList] else none | _ => none) := by
  unfold Program.keyLits
  cases v <;> simp [Tryz.underlying9]
theorem keyOf_agg2 (a b : Value) : keyOf Tryz.prog 98 (.agg #[a, b]) = (match a, b with | .string s, .string t => if s.size ≤ maxLen then (if t.size ≤ maxLen then some (plL (s, t)) else none) else none | _, _ => none) := by
  have hk : Tryz.prog.keyType 98 = true := by kernel_rfl
  have hs : Tryz.prog.types.size + 1 = 2 + (Tryz.prog.types.size - 1) := by
    have : 1 ≤ Tryz.prog.types.size := of_decide_eq_true (by kernel_rfl)
    omega
  have hcell : Tryz.prog.cellsOf 98 = 2 := by kernel_rfl
  have hc3 : Tryz.prog.cellsOf 9 = 1 := by kernel_rfl
  unfold keyOf
  simp only [Tryz.underlying98]
  rw [if_pos (by simp [hk, Value.formed, Tryz.underlying98, hcell]), hs, show 2 + (Tryz.prog.types.size - 1) = (Tryz.prog.types.size - 1) + 1 + 1 by omega]
  generalize Tryz.prog.types.size - 1 = m
  have h3 : Tryz.prog.keyLits (m + 1 + 1) 98 [a, b] = (match a, b with | .string s, .string t => if s.size ≤ maxLen then (if t.size ≤ maxLen then some [.string s.data.toList, .string t.data.toList] else none) else none | _, _ => none) := by
    unfold Program.keyLits
    simp only [Tryz.underlying98]
    rw [if_pos ⟨by rw [hcell]; rfl, by kernel_rfl⟩]
    simp only [List.mapM_cons, List.mapM_nil, hc3, List.drop_zero, List.drop_succ_cons, List.take_succ_cons, List.take_zero, keyLits_str]
    cases a <;> try (simp; done)
    rename_i s
    by_cases h1 : s.size ≤ maxLen
    · cases b <;> try (simp [h1]; done)
      rename_i t
      by_cases h2 : t.size ≤ maxLen <;> simp [h1, h2]
    · cases b <;> simp [h1]
  show (Tryz.prog.keyLits (m + 1 + 1) 98 [a, b]).map _ = _
  rw [h3]
  cases a <;> try rfl
  cases b <;> try rfl
  rename_i s t
  by_cases h1 : s.size ≤ maxLen
  · by_cases h2 : t.size ≤ maxLen
    · simp only [h1, h2, if_true]; rfl
    · simp only [h1, h2, if_true, if_false]; rfl
  · simp only [h1, if_false]; rfl
set_option maxRecDepth 20000 in
def kxP : Kx Tryz.prog 98 (ByteArray × ByteArray) where
  kv p := plV p
  kl p := plL p
  ok p := p.1.size ≤ maxLen ∧ p.2.size ≤ maxLen
  law := placeLaw
  key {k} h := by
    unfold plV
    rw [keyOf_agg2]
    simp only [h.1, h.2, if_true]
  vinj {a b} h := by
    simp only [plV, Value.agg.injEq, Array.mk.injEq, List.cons.injEq, Value.string.injEq, and_true] at h
    exact Prod.ext h.1 h.2
  inv {v l} h := by
    have hc : Tryz.prog.cellsOf 98 = 2 := by kernel_rfl
    have hf : v.formed Tryz.prog 98 = true := by
      unfold keyOf at h
      simp only [Tryz.underlying98] at h
      split at h
      · rename_i h1
        simp only [Bool.and_eq_true] at h1
        exact h1.2
      · cases h
    cases v <;> simp [Value.formed, Tryz.underlying98] at hf
    rename_i cs
    rw [hc] at hf
    obtain ⟨l2⟩ := cs
    obtain ⟨a, b, rfl⟩ : ∃ a b, l2 = [a, b] := by
      match l2, hf with
      | [a, b], _ => exact ⟨a, b, rfl⟩
    rw [keyOf_agg2] at h
    cases a <;> try cases h
    cases b <;> try cases h
    rename_i s t
    simp only at h
    split at h
    · split at h
      · rename_i h1 h2
        exact ⟨(s, t), ⟨h1, h2⟩, rfl, (Option.some.inj h).symm⟩
      · cases h
    · cases h
theorem zeroPool (w : World) : (zeroValue 93).run Tryz.prog w = .ok (.agg #[.string ⟨#[]⟩, .slice none 0 0]) w := by kernel_rfl
theorem zeroRoute (w : World) : (zeroValue 67).run Tryz.prog w = .ok (.agg #[.string ⟨#[]⟩, .string ⟨#[]⟩, .string ⟨#[]⟩]) w := by kernel_rfl
theorem zeroLast (w : World) : (zeroValue 104).run Tryz.prog w = .ok (.agg #[.int .i64 0, .int .i64 0, .int .i64 0]) w := by kernel_rfl
theorem mapTP : Tryz.prog.underlying 82 = some (.map 9 93) := Tryz.underlying82
theorem mapTR : Tryz.prog.underlying 83 = some (.map 98 67) := Tryz.underlying83
theorem mapTC : Tryz.prog.underlying 84 = some (.map 3 104) := Tryz.underlying84
end Go.Proofs.YtpkpnedcecjlbaaGreatDoor
end
/- What slices.SortFunc asks of the program, at this program's numbers. -/
section
namespace Go.Proofs
open Go.RowKit Go.Sort Go.Shelf
def Tryz.sortF80_ren : Go.Shelf.Ren := ⟨fun | 6 => 80 | 15 => 98 | 14 => 100 | 28 => 120 | 29 => 121 | 20 => 122 | 21 => 123 | 22 => 124 | 23 => 125 | 24 => 126 | 25 => 127 | 26 => 128 | 27 => 129 | 46 => 142 | 47 => 138 | 48 => 139 | 49 => 143 | 50 => 144 | 57 => 151 | n => n, fun | 22 => 95 | 24 => 98 | 25 => 102 | 3 => 3 | 39 => 44 | 0 => 0 | 53 => 155 | 55 => 38 | 4 => 4 | 46 => 147 | 45 => 146 | 50 => 152 | 5 => 5 | 9 => 9 | 66 => 169 | 70 => 173 | 76 => 182 | 77 => 183 | n => n, fun | n => n⟩
theorem Tryz.sortF80 : Go.Proofs.SlLaysF0.n6 Tryz.prog Tryz.sortF80_ren := {
  mixed := by kernel_rfl
  f6 := ⟨Tryz.f80.name, by decide, Tryz.func80.trans (congrArg some (by kernel_rfl))⟩
  f14 := ⟨Tryz.f100.name, by decide, Tryz.func100.trans (congrArg some (by kernel_rfl))⟩
  f15 := Tryz.func98.trans (congrArg some (by kernel_rfl))
  f20 := ⟨Tryz.f122.name, by decide, Tryz.func122.trans (congrArg some (by kernel_rfl))⟩
  f21 := ⟨Tryz.f123.name, by decide, Tryz.func123.trans (congrArg some (by kernel_rfl))⟩
  f22 := ⟨Tryz.f124.name, by decide, Tryz.func124.trans (congrArg some (by kernel_rfl))⟩
  f23 := ⟨Tryz.f125.name, by decide, Tryz.func125.trans (congrArg some (by kernel_rfl))⟩
  f24 := ⟨Tryz.f126.name, by decide, Tryz.func126.trans (congrArg some (by kernel_rfl))⟩
  f25 := ⟨Tryz.f127.name, by decide, Tryz.func127.trans (congrArg some (by kernel_rfl))⟩
  f26 := ⟨Tryz.f128.name, by decide, Tryz.func128.trans (congrArg some (by kernel_rfl))⟩
  f27 := ⟨Tryz.f129.name, by decide, Tryz.func129.trans (congrArg some (by kernel_rfl))⟩
  f28 := Tryz.func120.trans (congrArg some (by kernel_rfl))
  f29 := Tryz.func121.trans (congrArg some (by kernel_rfl))
  f46 := ⟨Tryz.f142.name, by decide, Tryz.func142.trans (congrArg some (by kernel_rfl))⟩
  f47 := Tryz.func138.trans (congrArg some (by kernel_rfl))
  f48 := Tryz.func139.trans (congrArg some (by kernel_rfl))
  f49 := ⟨Tryz.f143.name, by decide, Tryz.func143.trans (congrArg some (by kernel_rfl))⟩
  f50 := ⟨Tryz.f144.name, by decide, Tryz.func144.trans (congrArg some (by kernel_rfl))⟩
  f57 := ⟨Tryz.f151.name, by decide, Tryz.func151.trans (congrArg some (by kernel_rfl))⟩
  t0 := Tryz.underlying0
  a0 := Tryz.isAgg0
  z0 := Tryz.sizeOf0
  v0 := Tryz.zeroValue0
  t3 := Tryz.underlying3
  a3 := Tryz.isAgg3
  z3 := Tryz.sizeOf3
  v3 := Tryz.zeroValue3
  t4 := Tryz.underlying4
  a4 := Tryz.isAgg4
  z4 := Tryz.sizeOf4
  v4 := Tryz.zeroValue4
  t5 := Tryz.underlying5
  a5 := Tryz.isAgg5
  z5 := Tryz.sizeOf5
  v5 := Tryz.zeroValue5
  t9 := Tryz.underlying9
  a9 := Tryz.isAgg9
  z9 := Tryz.sizeOf9
  v9 := Tryz.zeroValue9
  t22 := Tryz.underlying95
  a22 := Tryz.isAgg95
  z22 := Tryz.sizeOf95
  v22 := Tryz.zeroValue95
  t25 := Tryz.underlying102
  a25 := Tryz.isAgg102
  z25 := Tryz.sizeOf102
  v25 := Tryz.zeroValue102
  t39 := Tryz.underlying44
  a39 := Tryz.isAgg44
  z39 := Tryz.sizeOf44
  v39 := Tryz.zeroValue44
  t45 := Tryz.underlying146
  a45 := Tryz.isAgg146
  z45 := Tryz.sizeOf146
  v45 := Tryz.zeroValue146
  t46 := Tryz.underlying147
  a46 := Tryz.isAgg147
  z46 := Tryz.sizeOf147
  v46 := Tryz.zeroValue147
  t50 := Tryz.underlying152
  a50 := Tryz.isAgg152
  z50 := Tryz.sizeOf152
  v50 := Tryz.zeroValue152
  t53 := Tryz.underlying155
  a53 := Tryz.isAgg155
  z53 := Tryz.sizeOf155
  v53 := Tryz.zeroValue155
  t55 := Tryz.underlying38
  a55 := Tryz.isAgg38
  z55 := Tryz.sizeOf38
  v55 := Tryz.zeroValue38
  t66 := Tryz.underlying169
  a66 := Tryz.isAgg169
  z66 := Tryz.sizeOf169
  v66 := Tryz.zeroValue169
  t70 := Tryz.underlying173
  a70 := Tryz.isAgg173
  z70 := Tryz.sizeOf173
  v70 := Tryz.zeroValue173
  t76 := Tryz.underlying182
  a76 := Tryz.isAgg182
  z76 := Tryz.sizeOf182
  v76 := Tryz.zeroValue182
  t77 := Tryz.underlying183
  a77 := Tryz.isAgg183
  z77 := Tryz.sizeOf183
  v77 := Tryz.zeroValue183 }
end Go.Proofs
end
