/- Logs, plainly: what the records of a file say; files that grew at their ends. -/
import Derived.Test.YtijcpmbfhfppmaaGreatDoorWgd
import Derived.Test.YtijcpmbfhfppmaaGreatDoorCat
namespace Go.Proofs.YtijcpmbfhfppmaaGreatDoor
open Go.ChangeShapes Go.WideShapes Go.ChangeAt Go.RowKit
set_option linter.unusedVariables false

/-- Entries have the indices behind the base, none left out. -/
def Ix (c : Wc) : Prop := ∀ j (hj : j < c.es.length), c.es[j].2.2.1 = c.bi + 1 + j
def recE (e : EntN) : List Nat := 3 :: entryB e.1 e.2.1 e.2.2.1 e.2.2.2
def recH (t v : Nat) : List Nat := 2 :: (numB t ++ numB v)
def recM (i t : Nat) : List Nat := 1 :: (numB i ++ numB t)
/-- A content's records. -/
def allR (c : Wc) : List (List Nat) := recM c.bi c.bt :: recH c.ht c.hv :: c.es.map recE
theorem cat_app : ∀ (a b : List (List Nat)), cat (a ++ b) = cat a ++ cat b
  | [], b => rfl
  | x :: a, b => by simp only [List.cons_append, cat, cat_app a b, List.append_assoc]
theorem cat_ents : ∀ es : List EntN, cat (es.map recE) = entsB es
  | [] => rfl
  | e :: es => by
    rw [List.map_cons, cat, cat_ents es]
    rfl
theorem cat_allR (c : Wc) : cat (allR c) = allB c := by
  unfold allR allB
  rw [cat, cat, cat_ents, List.append_assoc]
  rfl
theorem takeR_ent {c : Wc} {e : EntN} (he : EOk e) (hf : fitsW c (e.2.2.1 : Int) = true) : takeR c (recE e) = some (addW c e) := by
  obtain ⟨k, t, i, d⟩ := e
  have h := entry_got (show EntOk k t i d from he)
  unfold recE
  rw [takeR_cons, if_neg (by omega), if_neg (by omega), if_pos rfl]
  unfold entR
  rw [show entryB k t i d = entB' k t i d from rfl, h]
  dsimp only
  exact if_pos hf
theorem takeR_hard (c : Wc) {t v : Nat} (ht : t ≤ 1099511627776) (hv : v ≤ 9) : takeR c (recH t v) = some { c with ht := t, hv := v } := by
  unfold recH
  rw [takeR_cons, if_neg (by omega), if_pos rfl]
  unfold hardR
  rw [hard_got ht hv]
theorem takeR_mark (c : Wc) {i t : Nat} (hi : i ≤ 1099511627776) (ht : t ≤ 1099511627776) : takeR c (recM i t) = some ⟨i, t, c.ht, c.hv, []⟩ := by
  unfold recM
  rw [takeR_cons, if_pos rfl]
  unfold markR
  rw [takeE_at (l := numB i ++ numB t) (a := []) (b := numB t) (k := 0) (n := i) (by simp) rfl hi]
  dsimp only
  rw [takeE_at (l := numB i ++ numB t) (a := numB i) (b := []) (n := t) (by simp) (by simp) ht]
  dsimp only
  rw [if_neg (by rw [List.length_append]; omega)]
theorem recE_len {e : EntN} (he : EOk e) : (recE e).length ≤ 65536 := by
  obtain ⟨_, ⟨_, b2⟩, ⟨_, c2⟩, _, d2⟩ := he
  have h6 := entryB_six e.1 e.2.1 e.2.2.1 e.2.2.2 b2 c2 d2
  unfold recE
  rw [List.length_cons]
  omega
theorem recH_len {t v : Nat} (ht : t ≤ 1099511627776) (hv : v ≤ 9) : (recH t v).length ≤ 65536 := by
  have h1 := numB_six t ht
  have h2 := numB_six v (by omega)
  unfold recH
  rw [List.length_cons, List.length_append]
  omega
theorem recM_len {i t : Nat} (hi : i ≤ 1099511627776) (ht : t ≤ 1099511627776) : (recM i t).length ≤ 65536 := by
  have h1 := numB_six i hi
  have h2 := numB_six t ht
  unfold recM
  rw [List.length_cons, List.length_append]
  omega
theorem allR_len {c : Wc} (h : WOk c) : ∀ r ∈ allR c, r.length ≤ 65536 := by
  intro r hr
  unfold allR at hr
  rcases List.mem_cons.1 hr with rfl | hr
  · exact recM_len h.bi h.bt
  rcases List.mem_cons.1 hr with rfl | hr
  · exact recH_len h.ht h.hv
  obtain ⟨e, he, rfl⟩ := List.mem_map.1 hr
  exact recE_len (h.es e he)
/-- More records behind those of a content. -/
theorem contR_app {a b : List (List Nat)} {c c' : Wc} (h : contR a = some c) (h2 : foldR c b = some c') : contR (a ++ b) = some c' := by
  cases a with
  | nil => cases h
  | cons r a =>
    change (if isMarkL r = true then foldR wc0 (r :: a) else none) = some c at h
    show (if isMarkL r = true then foldR wc0 (r :: (a ++ b)) else none) = some c'
    split at h
    · rename_i hm
      rw [if_pos hm, ← List.cons_append, foldR_app, h]
      exact h2
    · cases h
theorem contR_part {a b : List (List Nat)} {c c' : Wc} (h : contR a = some c) (h2 : contR (a ++ b) = some c') : foldR c b = some c' := by
  cases a with
  | nil => cases h
  | cons r a =>
    change (if isMarkL r = true then foldR wc0 (r :: a) else none) = some c at h
    change (if isMarkL r = true then foldR wc0 (r :: (a ++ b)) else none) = some c' at h2
    split at h
    · rename_i hm
      rw [if_pos hm, ← List.cons_append, foldR_app, h] at h2
      exact h2
    · cases h
theorem foldR_take {rs : List (List Nat)} {c c' : Wc} (m : Nat) (h : foldR c rs = some c') : ∃ c1, foldR c (rs.take m) = some c1 := by
  rw [← List.take_append_drop m rs, foldR_app] at h
  cases h1 : foldR c (rs.take m) with
  | none => rw [h1] at h; cases h
  | some c1 => exact ⟨c1, rfl⟩
theorem Ix.nil {i t a b : Nat} : Ix ⟨i, t, a, b, []⟩ := fun j hj => by simp at hj
theorem Ix.add {c : Wc} {e : EntN} (h : Ix c) (h1 : c.bi < e.2.2.1) (h2 : e.2.2.1 ≤ c.bi + c.es.length + 1) : Ix (addW c e) := by
  intro j hj
  have hl : (c.es.take (e.2.2.1 - c.bi - 1)).length = e.2.2.1 - c.bi - 1 := by rw [List.length_take]; omega
  have hj' : j < (c.es.take (e.2.2.1 - c.bi - 1) ++ [e]).length := hj
  show (c.es.take (e.2.2.1 - c.bi - 1) ++ [e])[j].2.2.1 = c.bi + 1 + j
  by_cases hlt : j < e.2.2.1 - c.bi - 1
  · rw [List.getElem_append_left (by omega), List.getElem_take]
    exact h j (by omega)
  · have : j = e.2.2.1 - c.bi - 1 := by
      rw [List.length_append, hl] at hj'
      simp only [List.length_singleton] at hj'
      omega
    rw [List.getElem_append_right (by omega)]
    simp only [List.getElem_singleton]
    omega
theorem fitsW_at {c : Wc} {i : Nat} (h1 : c.bi < i) (h2 : i ≤ c.bi + c.es.length + 1) : fitsW c (i : Int) = true := by
  unfold fitsW
  rw [Bool.and_eq_true, decide_eq_true_eq, decide_eq_true_eq]
  omega
/-- A content's own records say it. -/
theorem fold_ents : ∀ (es : List EntN) (c : Wc), (∀ e ∈ es, EOk e) → (∀ j (hj : j < es.length), es[j].2.2.1 = c.bi + 1 + c.es.length + j) → foldR c (es.map recE) = some { c with es := c.es ++ es }
  | [], c, _, _ => by simp [foldR]
  | e :: es, c, h, hi => by
    have h0 := hi 0 (by simp)
    simp only [List.getElem_cons_zero] at h0
    rw [List.map_cons, foldR_cons, takeR_ent (h e (by simp)) (fitsW_at (by omega) (by omega))]
    dsimp only
    have ha : addW c e = { c with es := c.es ++ [e] } := by
      unfold addW
      rw [List.take_of_length_le (by omega)]
    rw [ha, fold_ents es _ (fun x hx => h x (by simp [hx])) (fun j hj => ?_)]
    · simp
    · have := hi (j + 1) (by simpa using hj)
      simp only [List.getElem_cons_succ] at this
      rw [this, List.length_append]
      simp only [List.length_singleton]
      omega
theorem contR_allR {c : Wc} (h : WOk c) (hi : Ix c) : contR (allR c) = some c := by
  show (if isMarkL (recM c.bi c.bt) = true then foldR wc0 (recM c.bi c.bt :: recH c.ht c.hv :: c.es.map recE) else none) = _
  rw [if_pos (show isMarkL (recM c.bi c.bt) = true from rfl), foldR_cons, takeR_mark wc0 h.bi h.bt]
  dsimp only
  rw [foldR_cons, takeR_hard _ h.ht h.hv]
  dsimp only
  rw [fold_ents c.es _ h.es (fun j hj => by simp only [List.length_nil]; exact hi j hj)]
  simp
/-- Entries that fit, one behind the other. -/
theorem recsE_cat : ∀ {es : List EntI} {b : List Nat}, recsE es = .ok b → b = cat (es.map fun e => recE (toN e))
  | [], b, h => by cases h; rfl
  | e :: es, b, h => by
    rw [recsE_cons] at h
    cases hp : putE e with
    | error x => rw [hp] at h; cases h
    | ok y =>
      rw [hp] at h
      dsimp only at h
      cases hr : recsE es with
      | error x => rw [hr] at h; cases h
      | ok m =>
        rw [hr] at h
        cases h
        obtain ⟨k, t, i, h1, h2, h3, _, _, h6, _⟩ := putE_ok hp
        obtain ⟨ek, et, ei, ed⟩ := e
        dsimp only at h1 h2 h3 h6
        subst h1 h2 h3 h6
        rw [List.map_cons, cat, ← recsE_cat hr]
        rfl
theorem Ix.addAll {c : Wc} {es : List EntI} (hi : Ix c) (hf : ∀ j (hj : j < es.length), c.bi < es[j].2.2.1.toNat ∧ es[j].2.2.1.toNat ≤ c.bi + (addAll c (es.take j)).es.length + 1) : ∀ j, j ≤ es.length → Ix (addAll c (es.take j))
  | 0, _ => by rw [List.take_zero]; exact hi
  | j + 1, hj => by
    have ih := Ix.addAll hi hf j (by omega)
    have hb := (addAll_bi c (es.take j)).1
    obtain ⟨h1, h2⟩ := hf j (by omega)
    rw [addAll_take c es j (by omega)]
    exact ih.add (by rw [hb]; exact h1) (by rw [hb]; exact h2)
theorem fold_addAll {c : Wc} {es : List EntI} (hk : ∀ e ∈ es, EOk (toN e)) (hf : ∀ j (hj : j < es.length), c.bi < es[j].2.2.1.toNat ∧ es[j].2.2.1.toNat ≤ c.bi + (addAll c (es.take j)).es.length + 1) : ∀ j, j ≤ es.length → foldR c ((es.take j).map fun e => recE (toN e)) = some (addAll c (es.take j))
  | 0, _ => by rw [List.take_zero]; rfl
  | j + 1, hj => by
    have ih := fold_addAll hk hf j (by omega)
    have hb := (addAll_bi c (es.take j)).1
    obtain ⟨h1, h2⟩ := hf j (by omega)
    rw [addAll_take c es j (by omega), List.take_succ_eq_append_getElem (by omega), List.map_append, List.map_singleton, foldR_snoc _ _ _ _ ih]
    exact takeR_ent (hk _ (List.getElem_mem _)) (fitsW_at (by rw [hb]; exact h1) (by rw [hb]; exact h2))
/-- Changes that each were laid at the end: y, and b behind it. -/
def Apps : List Chg → List Nat → List Nat → Prop
  | [], _, b => b = []
  | c :: cs, y, b => c.1 = false ∧ c.2.1 = y.length ∧ ∃ b', b = c.2.2 ++ b' ∧ Apps cs (y ++ c.2.2) b'
theorem over_end (y o : List Nat) : overL y y.length o = y ++ o := by
  unfold overL
  rw [List.take_length, List.drop_of_length_le (by omega), List.append_nil]
theorem onto_end {c : Chg} {y : List Nat} (h1 : c.1 = false) (h2 : c.2.1 = y.length) (u : Nat) : ontoC c y u = y ++ c.2.2.take u := by
  unfold ontoC
  rw [h1, h2]
  exact over_end _ _
theorem Apps.now : ∀ {cs : List Chg} {y b : List Nat}, Apps cs y b → nowC cs y = y ++ b
  | [], y, b, h => by rw [show b = [] from h, List.append_nil]; rfl
  | c :: cs, y, b, h => by
    obtain ⟨h1, h2, b', rfl, h4⟩ := h
    have hu : unitsC c = c.2.2.length := by unfold unitsC; rw [h1]; rfl
    rw [nowC, onto_end h1 h2, hu, List.take_length, h4.now, List.append_assoc]
theorem Apps.snoc : ∀ {cs : List Chg} {y b : List Nat} (o : List Nat), Apps cs y b → Apps (cs ++ [(false, (y ++ b).length, o)]) y (b ++ o)
  | [], y, b, o, h => by
    obtain rfl : b = [] := h
    exact ⟨rfl, by simp, [], by simp, rfl⟩
  | c :: cs, y, b, o, h => by
    obtain ⟨h1, h2, b', rfl, h4⟩ := h
    refine ⟨h1, h2, b' ++ o, by rw [List.append_assoc], ?_⟩
    have := h4.snoc o
    rw [List.append_assoc] at this
    exact this
theorem Apps.crash : ∀ {cs : List Chg} {y b : List Nat} (U : Nat), Apps cs y b → (crashL cs y U).1 = y ++ b.take U
  | [], y, b, U, h => by rw [show b = [] from h]; simp [crashL]
  | c :: cs, y, b, U, h => by
    obtain ⟨h1, h2, b', rfl, h4⟩ := h
    have hu : unitsC c = c.2.2.length := by unfold unitsC; rw [h1]; rfl
    unfold crashL
    by_cases h0 : U = 0
    · rw [if_pos h0, h0]; simp
    · rw [if_neg h0, hu, onto_end h1 h2]
      by_cases h3 : U ≤ c.2.2.length
      · rw [show U - min U c.2.2.length = 0 by omega, crashL_zero, show min U c.2.2.length = U by omega]
        show y ++ _ = _
        rw [List.take_append_of_le_length h3]
      · rw [show min U c.2.2.length = c.2.2.length by omega, List.take_length, h4.crash, List.append_assoc, List.take_append, List.take_of_length_le (show c.2.2.length ≤ U by omega)]
end Go.Proofs.YtijcpmbfhfppmaaGreatDoor
