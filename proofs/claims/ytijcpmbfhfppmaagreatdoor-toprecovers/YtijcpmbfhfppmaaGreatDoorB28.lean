/- Logs, plainly: what the records of a file say; files that grew at their ends. -/
import Derived.Test.YtijcpmbfhfppmaaGreatDoorB27
import Derived.Test.YtijcpmbfhfppmaaGreatDoorB26
import Derived.Test.YtijcpmbfhfppmaaGreatDoorB07
import Derived.Deep.Slices
section
namespace Go.Proofs.YtijcpmbfhfppmaaGreatDoor
open Go.ChangeShapes Go.WideShapes Go.ChangeAt Go.RowKit
set_option linter.unusedVariables false

/-- Entries have the indices behind the base, none left out. -/
def Ix (c : Wc) : Prop := ∀ j (hj : j < c.es.length), c.es[j].2.2.1 = c.bi + 1 + j
def recE (e : EntN) : List Nat := 3 :: entryB e.1 e.2.1 e.2.2.1 e.2.2.2
def recH (t v : Nat) : List Nat := 2 :: (numB t ++ numB v)
def recM (i t : Nat) : List Nat := 1 :: (numB i ++ numB t)
/-- A content's records. -/
def allR (c : Wc) : List (List Nat) := recM c.bi c.bt :: recH c.ht c.hv :: c.es.map recE
theorem cat_app : ∀ (a b : List (List Nat)), cat (a ++ b) = cat a ++ cat b
  | [], b => rfl
  | x :: a, b => by simp only [List.cons_append, cat, cat_app a b, List.append_assoc]
theorem cat_ents : ∀ es : List EntN, cat (es.map recE) = entsB es
  | [] => rfl
  | e :: es => by
    rw [List.map_cons, cat, cat_ents es]
    rfl
theorem cat_allR (c : Wc) : cat (allR c) = allB c := by
  unfold allR allB
  rw [cat, cat, cat_ents, List.append_assoc]
  rfl
theorem takeR_ent {c : Wc} {e : EntN} (he : EOk e) (hf : fitsW c (e.2.2.1 : Int) = true) : takeR c (recE e) = some (addW c e) := by
  obtain ⟨k, t, i, d⟩ := e
  have h := entry_got (show EntOk k t i d from he)
  unfold recE
  rw [takeR_cons, if_neg (by omega), if_neg (by omega), if_pos rfl]
  unfold entR
  rw [show entryB k t i d = entB' k t i d from rfl, h]
  dsimp only
  exact if_pos hf
theorem takeR_hard (c : Wc) {t v : Nat} (ht : t ≤ 1099511627776) (hv : v ≤ 9) : takeR c (recH t v) = some { c with ht := t, hv := v } := by
  unfold recH
  rw [takeR_cons, if_neg (by omega), if_pos rfl]
  unfold hardR
  rw [hard_got ht hv]
theorem takeR_mark (c : Wc) {i t : Nat} (hi : i ≤ 1099511627776) (ht : t ≤ 1099511627776) : takeR c (recM i t) = some ⟨i, t, c.ht, c.hv, []⟩ := by
  unfold recM
  rw [takeR_cons, if_pos rfl]
  unfold markR
  rw [takeE_at (l := numB i ++ numB t) (a := []) (b := numB t) (k := 0) (n := i) (by simp) rfl hi]
  dsimp only
  rw [takeE_at (l := numB i ++ numB t) (a := numB i) (b := []) (n := t) (by simp) (by simp) ht]
  dsimp only
  rw [if_neg (by rw [List.length_append]; omega)]
theorem recE_len {e : EntN} (he : EOk e) : (recE e).length ≤ 65536 := by
  obtain ⟨_, ⟨_, b2⟩, ⟨_, c2⟩, _, d2⟩ := he
  have h6 := entryB_six e.1 e.2.1 e.2.2.1 e.2.2.2 b2 c2 d2
  unfold recE
  rw [List.length_cons]
  omega
theorem recH_len {t v : Nat} (ht : t ≤ 1099511627776) (hv : v ≤ 9) : (recH t v).length ≤ 65536 := by
  have h1 := numB_six t ht
  have h2 := numB_six v (by omega)
  unfold recH
  rw [List.length_cons, List.length_append]
  omega
theorem recM_len {i t : Nat} (hi : i ≤ 1099511627776) (ht : t ≤ 1099511627776) : (recM i t).length ≤ 65536 := by
  have h1 := numB_six i hi
  have h2 := numB_six t ht
  unfold recM
  rw [List.length_cons, List.length_append]
  omega
theorem allR_len {c : Wc} (h : WOk c) : ∀ r ∈ allR c, r.length ≤ 65536 := by
  intro r hr
  unfold allR at hr
  rcases List.mem_cons.1 hr with rfl | hr
  · exact recM_len h.bi h.bt
  rcases List.mem_cons.1 hr with rfl | hr
  · exact recH_len h.ht h.hv
  obtain ⟨e, he, rfl⟩ := List.mem_map.1 hr
  exact recE_len (h.es e he)
/-- More records behind those of a content. -/
theorem contR_app {a b : List (List Nat)} {c c' : Wc} (h : contR a = some c) (h2 : foldR c b = some c') : contR (a ++ b) = some c' := by
  cases a with
  | nil => cases h
  | cons r a =>
    change (if isMarkL r = true then foldR wc0 (r :: a) else none) = some c at h
    show (if isMarkL r = true then foldR wc0 (r :: (a ++ b)) else none) = some c'
    split at h
    · rename_i hm
      rw [if_pos hm, ← List.cons_append, foldR_app, h]
      exact h2
    · cases h
theorem contR_part {a b : List (List Nat)} {c c' : Wc} (h : contR a = some c) (h2 : contR (a ++ b) = some c') : foldR c b = some c' := by
  cases a with
  | nil => cases h
  | cons r a =>
    change (if isMarkL r = true then foldR wc0 (r :: a) else none) = some c at h
    change (if isMarkL r = true then foldR wc0 (r :: (a ++ b)) else none) = some c' at h2
    split at h
    · rename_i hm
      rw [if_pos hm, ← List.cons_append, foldR_app, h] at h2
      exact h2
    · cases h
theorem foldR_take {rs : List (List Nat)} {c c' : Wc} (m : Nat) (h : foldR c rs = some c') : ∃ c1, foldR c (rs.take m) = some c1 := by
  rw [← List.take_append_drop m rs, foldR_app] at h
  cases h1 : foldR c (rs.take m) with
  | none => rw [h1] at h; cases h
  | some c1 => exact ⟨c1, rfl⟩
theorem Ix.nil {i t a b : Nat} : Ix ⟨i, t, a, b, []⟩ := fun j hj => by simp at hj
theorem Ix.add {c : Wc} {e : EntN} (h : Ix c) (h1 : c.bi < e.2.2.1) (h2 : e.2.2.1 ≤ c.bi + c.es.length + 1) : Ix (addW c e) := by
  intro j hj
  have hl : (c.es.take (e.2.2.1 - c.bi - 1)).length = e.2.2.1 - c.bi - 1 := by rw [List.length_take]; omega
  have hj' : j < (c.es.take (e.2.2.1 - c.bi - 1) ++ [e]).length := hj
  show (c.es.take (e.2.2.1 - c.bi - 1) ++ [e])[j].2.2.1 = c.bi + 1 + j
  by_cases hlt : j < e.2.2.1 - c.bi - 1
  · rw [List.getElem_append_left (by omega), List.getElem_take]
    exact h j (by omega)
  · have : j = e.2.2.1 - c.bi - 1 := by
      rw [List.length_append, hl] at hj'
      simp only [List.length_singleton] at hj'
      omega
    rw [List.getElem_append_right (by omega)]
    simp only [List.getElem_singleton]
    omega
theorem fitsW_at {c : Wc} {i : Nat} (h1 : c.bi < i) (h2 : i ≤ c.bi + c.es.length + 1) : fitsW c (i : Int) = true := by
  unfold fitsW
  rw [Bool.and_eq_true, decide_eq_true_eq, decide_eq_true_eq]
  omega
/-- A content's own records say it. -/
theorem fold_ents : ∀ (es : List EntN) (c : Wc), (∀ e ∈ es, EOk e) → (∀ j (hj : j < es.length), es[j].2.2.1 = c.bi + 1 + c.es.length + j) → foldR c (es.map recE) = some { c with es := c.es ++ es }
  | [], c, _, _ => by simp [foldR]
  | e :: es, c, h, hi => by
    have h0 := hi 0 (by simp)
    simp only [List.getElem_cons_zero] at h0
    rw [List.map_cons, foldR_cons, takeR_ent (h e (by simp)) (fitsW_at (by omega) (by omega))]
    dsimp only
    have ha : addW c e = { c with es := c.es ++ [e] } := by
      unfold addW
      rw [List.take_of_length_le (by omega)]
    rw [ha, fold_ents es _ (fun x hx => h x (by simp [hx])) (fun j hj => ?_)]
    · simp
    · have := hi (j + 1) (by simpa using hj)
      simp only [List.getElem_cons_succ] at this
      rw [this, List.length_append]
      simp only [List.length_singleton]
      omega
theorem contR_allR {c : Wc} (h : WOk c) (hi : Ix c) : contR (allR c) = some c := by
  show (if isMarkL (recM c.bi c.bt) = true then foldR wc0 (recM c.bi c.bt :: recH c.ht c.hv :: c.es.map recE) else none) = _
  rw [if_pos (show isMarkL (recM c.bi c.bt) = true from rfl), foldR_cons, takeR_mark wc0 h.bi h.bt]
  dsimp only
  rw [foldR_cons, takeR_hard _ h.ht h.hv]
  dsimp only
  rw [fold_ents c.es _ h.es (fun j hj => by simp only [List.length_nil]; exact hi j hj)]
  simp
/-- Entries that fit, one behind the other. -/
theorem recsE_cat : ∀ {es : List EntI} {b : List Nat}, recsE es = .ok b → b = cat (es.map fun e => recE (toN e))
  | [], b, h => by cases h; rfl
  | e :: es, b, h => by
    rw [recsE_cons] at h
    cases hp : putE e with
    | error x => rw [hp] at h; cases h
    | ok y =>
      rw [hp] at h
      dsimp only at h
      cases hr : recsE es with
      | error x => rw [hr] at h; cases h
      | ok m =>
        rw [hr] at h
        cases h
        obtain ⟨k, t, i, h1, h2, h3, _, _, h6, _⟩ := putE_ok hp
        obtain ⟨ek, et, ei, ed⟩ := e
        dsimp only at h1 h2 h3 h6
        subst h1 h2 h3 h6
        rw [List.map_cons, cat, ← recsE_cat hr]
        rfl
theorem Ix.addAll {c : Wc} {es : List EntI} (hi : Ix c) (hf : ∀ j (hj : j < es.length), c.bi < es[j].2.2.1.toNat ∧ es[j].2.2.1.toNat ≤ c.bi + (addAll c (es.take j)).es.length + 1) : ∀ j, j ≤ es.length → Ix (addAll c (es.take j))
  | 0, _ => by rw [List.take_zero]; exact hi
  | j + 1, hj => by
    have ih := Ix.addAll hi hf j (by omega)
    have hb := (addAll_bi c (es.take j)).1
    obtain ⟨h1, h2⟩ := hf j (by omega)
    rw [addAll_take c es j (by omega)]
    exact ih.add (by rw [hb]; exact h1) (by rw [hb]; exact h2)
theorem fold_addAll {c : Wc} {es : List EntI} (hk : ∀ e ∈ es, EOk (toN e)) (hf : ∀ j (hj : j < es.length), c.bi < es[j].2.2.1.toNat ∧ es[j].2.2.1.toNat ≤ c.bi + (addAll c (es.take j)).es.length + 1) : ∀ j, j ≤ es.length → foldR c ((es.take j).map fun e => recE (toN e)) = some (addAll c (es.take j))
  | 0, _ => by rw [List.take_zero]; rfl
  | j + 1, hj => by
    have ih := fold_addAll hk hf j (by omega)
    have hb := (addAll_bi c (es.take j)).1
    obtain ⟨h1, h2⟩ := hf j (by omega)
    rw [addAll_take c es j (by omega), List.take_succ_eq_append_getElem (by omega), List.map_append, List.map_singleton, foldR_snoc _ _ _ _ ih]
    exact takeR_ent (hk _ (List.getElem_mem _)) (fitsW_at (by rw [hb]; exact h1) (by rw [hb]; exact h2))
/-- Changes that each were laid at the end: y, and b behind it. -/
def Apps : List Chg → List Nat → List Nat → Prop
  | [], _, b => b = []
  | c :: cs, y, b => c.1 = false ∧ c.2.1 = y.length ∧ ∃ b', b = c.2.2 ++ b' ∧ Apps cs (y ++ c.2.2) b'
theorem over_end (y o : List Nat) : overL y y.length o = y ++ o := by
  unfold overL
  rw [List.take_length, List.drop_of_length_le (by omega), List.append_nil]
theorem onto_end {c : Chg} {y : List Nat} (h1 : c.1 = false) (h2 : c.2.1 = y.length) (u : Nat) : ontoC c y u = y ++ c.2.2.take u := by
  unfold ontoC
  rw [h1, h2]
  exact over_end _ _
theorem Apps.now : ∀ {cs : List Chg} {y b : List Nat}, Apps cs y b → nowC cs y = y ++ b
  | [], y, b, h => by rw [show b = [] from h, List.append_nil]; rfl
  | c :: cs, y, b, h => by
    obtain ⟨h1, h2, b', rfl, h4⟩ := h
    have hu : unitsC c = c.2.2.length := by unfold unitsC; rw [h1]; rfl
    rw [nowC, onto_end h1 h2, hu, List.take_length, h4.now, List.append_assoc]
theorem Apps.snoc : ∀ {cs : List Chg} {y b : List Nat} (o : List Nat), Apps cs y b → Apps (cs ++ [(false, (y ++ b).length, o)]) y (b ++ o)
  | [], y, b, o, h => by
    obtain rfl : b = [] := h
    exact ⟨rfl, by simp, [], by simp, rfl⟩
  | c :: cs, y, b, o, h => by
    obtain ⟨h1, h2, b', rfl, h4⟩ := h
    refine ⟨h1, h2, b' ++ o, by rw [List.append_assoc], ?_⟩
    have := h4.snoc o
    rw [List.append_assoc] at this
    exact this
theorem Apps.crash : ∀ {cs : List Chg} {y b : List Nat} (U : Nat), Apps cs y b → (crashL cs y U).1 = y ++ b.take U
  | [], y, b, U, h => by rw [show b = [] from h]; simp [crashL]
  | c :: cs, y, b, U, h => by
    obtain ⟨h1, h2, b', rfl, h4⟩ := h
    have hu : unitsC c = c.2.2.length := by unfold unitsC; rw [h1]; rfl
    unfold crashL
    by_cases h0 : U = 0
    · rw [if_pos h0, h0]; simp
    · rw [if_neg h0, hu, onto_end h1 h2]
      by_cases h3 : U ≤ c.2.2.length
      · rw [show U - min U c.2.2.length = 0 by omega, crashL_zero, show min U c.2.2.length = U by omega]
        show y ++ _ = _
        rw [List.take_append_of_le_length h3]
      · rw [show min U c.2.2.length = c.2.2.length by omega, List.take_length, h4.crash, List.append_assoc, List.take_append, List.take_of_length_le (show c.2.2.length ≤ U by omega)]
end Go.Proofs.YtijcpmbfhfppmaaGreatDoor
end
/- Logs, plainly: a log's disk through its calls, through crashes and Open. -/
section
namespace Go.Proofs.YtijcpmbfhfppmaaGreatDoor
open Go.ChangeShapes Go.WideShapes Go.ChangeAt Go.RowKit
set_option linter.unusedVariables false

theorem takeR_ix {c c' : Wc} {l : List Nat} (h : takeR c l = some c') (hi : Ix c) : Ix c' := by
  cases l with
  | nil => cases h
  | cons k b =>
    rw [takeR_cons] at h
    split at h
    · unfold markR at h
      cases h1 : takeE b 0 with
      | error x => rw [h1] at h; cases h
      | ok r =>
        obtain ⟨i, k1⟩ := r
        rw [h1] at h
        dsimp only at h
        cases h2 : takeE b k1 with
        | error x => rw [h2] at h; cases h
        | ok r2 =>
          obtain ⟨t, k2⟩ := r2
          rw [h2] at h
          dsimp only at h
          split at h
          · cases h
          · cases h
            exact Ix.nil
    · split at h
      · unfold hardR at h
        cases h1 : wholeE b (hardE b 0) with
        | error x => rw [h1] at h; cases h
        | ok r =>
          obtain ⟨t, v⟩ := r
          rw [h1] at h
          cases h
          exact hi
      · split at h
        · unfold entR at h
          cases h1 : wholeE b (entryE b 0) with
          | error x => rw [h1] at h; cases h
          | ok e =>
            rw [h1] at h
            dsimp only at h
            split at h
            · rename_i hf
              cases h
              unfold fitsW at hf
              rw [Bool.and_eq_true, decide_eq_true_eq, decide_eq_true_eq] at hf
              exact hi.add (by omega) (by omega)
            · cases h
        · cases h
theorem foldR_ix : ∀ {rs : List (List Nat)} {c c' : Wc}, foldR c rs = some c' → Ix c → Ix c'
  | [], c, c', h, hk => by cases h; exact hk
  | r :: rs, c, c', h, hk => by
    rw [foldR_cons] at h
    cases h1 : takeR c r with
    | none => rw [h1] at h; cases h
    | some c1 =>
      rw [h1] at h
      exact foldR_ix h (takeR_ix h1 hk)
theorem contR_ix {rs : List (List Nat)} {c : Wc} (h : contR rs = some c) : Ix c := by
  cases rs with
  | nil => cases h
  | cons r rs =>
    change (if isMarkL r = true then foldR wc0 (r :: rs) else none) = some c at h
    split at h
    · exact foldR_ix h Ix.nil
    · cases h
theorem getS_one (k : Nm) (s : Sp) : getS k [(k, s)] = some s := by simp [getS]
theorem getS_not {k j : Nm} (h : j ≠ k) (s : Sp) : getS k [(j, s)] = none := by simp [getS, h]
theorem putF_one (k : Nm) (s v : Sp) : putF k v [(k, s)] = [(k, v)] := by simp [putF, nm_irrefl]
theorem wal_lt (n : Nat) : walNm n < tmpW := by
  unfold walNm walW tmpW
  simp only [List.cons_append]
  refine List.cons_lt_cons_iff.2 (.inr ⟨rfl, List.cons_lt_cons_iff.2 (.inr ⟨rfl, List.cons_lt_cons_iff.2 (.inr ⟨rfl, List.cons_lt_cons_iff.2 (.inl (by decide))⟩)⟩)⟩)
theorem putF_tmp (n : Nat) (s v : Sp) : putF tmpW v [(walNm n, s)] = [(walNm n, s), (tmpW, v)] := by
  unfold putF
  rw [if_pos (wal_lt n)]
  rfl
theorem now_wrote (o : List Nat) : (wrote sp0 0 o).now = o := by
  unfold wrote
  split
  · rename_i h
    rw [List.eq_nil_of_length_eq_zero h]
    rfl
  · show nowC [(false, 0, o)] [] = o
    simp [nowC, ontoC, unitsC, overL]
theorem used_one (k : Nm) (s : Sp) : usedS [(k, s)] = s.now.length := by simp [usedS]
theorem tmp_nameL : nameL tmpW = true := by decide
theorem wAnew_of {room n e : Nat} {b : List Nat} {ss s : Ds} (h : wReplace room n b ss = (e, s)) : wAnew room n b ss = (if e = 0 then (0, s) else (e, (dRemove tmpW s).2)) := by
  unfold wAnew
  rw [h]
  dsimp only
  by_cases h0 : e = 0
  · rw [if_pos h0, if_pos h0, h0]
  · rw [if_neg h0, if_neg h0]
/-- A log that is written anew. -/
theorem wAnew_one (room n : Nat) (b : List Nat) (s : Sp) (h1 : 1 ≤ n) (h2 : n ≤ 1099511627776) : wAnew room n b [(walNm n, s)] = (if 262144 < b.length then (6, [(walNm n, s)]) else if room < s.now.length + b.length then (9, [(walNm n, s)]) else if n = 1099511627776 then (6, [(walNm n, s)]) else (0, [(walNm (n + 1), ⟨true, b, []⟩)])) := by
  have hg : getS tmpW [(walNm n, s)] = none := getS_not (tmp_ne n) s
  have hr : dRemove tmpW [(walNm n, s)] = (8, [(walNm n, s)]) := by unfold dRemove; rw [hg]
  have hne : walNm (n + 1) ≠ walNm n := fun e => by have := walNm_inj (by omega) (by omega) e; omega
  have e0 : (((none : Option Sp).getD sp0).now.length : Int) = 0 := rfl
  have hw : dWrite room tmpW 0 b [(walNm n, s)] = (if 262144 < b.length then (6, [(walNm n, s)]) else if room < s.now.length + b.length then (9, [(walNm n, s)]) else (0, [(walNm n, s), (tmpW, wrote sp0 0 b)])) := by
    unfold dWrite
    rw [if_neg (by rw [tmp_nameL]; simp), hg, if_neg (by rw [e0]; omega)]
    by_cases h3 : 262144 < b.length
    · rw [if_pos (.inr (by omega)), if_pos h3]
    · rw [if_neg (by
        rintro (⟨_, h⟩ | h)
        · simp at h
        · omega), if_neg h3, used_one]
      by_cases h4 : room < s.now.length + b.length
      · rw [if_pos (by rw [e0]; omega), if_pos h4]
      · rw [if_neg (by rw [e0]; omega), if_neg h4, putF_tmp]
        rfl
  by_cases h3 : 262144 < b.length
  · rw [if_pos h3] at hw
    have hR : wReplace room n b [(walNm n, s)] = (6, [(walNm n, s)]) := by
      unfold wReplace
      rw [hw, if_pos (by simp)]
    rw [wAnew_of hR, if_neg (by omega), hr, if_pos h3]
  · rw [if_neg h3] at hw
    by_cases h4 : room < s.now.length + b.length
    · rw [if_pos h4] at hw
      have hR : wReplace room n b [(walNm n, s)] = (9, [(walNm n, s)]) := by
        unfold wReplace
        rw [hw, if_pos (by simp)]
      rw [wAnew_of hR, if_neg (by omega), hr, if_neg h3, if_pos h4]
    · rw [if_neg h4] at hw
      have hR0 : Rises [(walNm n, s), (tmpW, wrote sp0 0 b)] := by
        unfold Rises
        simp [wal_lt n]
      have hg2 : getS tmpW [(walNm n, s), (tmpW, wrote sp0 0 b)] = some (wrote sp0 0 b) := getS_mem hR0 (by simp)
      have hs : dSync tmpW [(walNm n, s), (tmpW, wrote sp0 0 b)] = (0, [(walNm n, s), (tmpW, ⟨true, b, []⟩)]) := by
        unfold dSync
        rw [hg2]
        dsimp only
        rw [now_wrote]
        unfold putF
        rw [if_pos (wal_lt n), putF_one]
      have hd : delF tmpW [(walNm n, s), (tmpW, (⟨true, b, []⟩ : Sp))] = [(walNm n, s)] := by
        simp [delF, tmp_ne n]
      have hR2 : Rises [(walNm n, s), (tmpW, (⟨true, b, []⟩ : Sp))] := by
        unfold Rises
        simp [wal_lt n]
      have hg3 : getS tmpW [(walNm n, s), (tmpW, (⟨true, b, []⟩ : Sp))] = some ⟨true, b, []⟩ := getS_mem hR2 (by simp)
      by_cases h5 : n = 1099511627776
      · have hR : wReplace room n b [(walNm n, s)] = (6, [(walNm n, s), (tmpW, ⟨true, b, []⟩)]) := by
          unfold wReplace
          rw [hw, if_neg (by simp), hs, if_neg (by simp), if_pos h5]
        have hrm : dRemove tmpW [(walNm n, s), (tmpW, (⟨true, b, []⟩ : Sp))] = (0, [(walNm n, s)]) := by
          unfold dRemove
          rw [hg3]
          dsimp only
          rw [hd]
        rw [wAnew_of hR, if_neg (by omega), hrm, if_neg h3, if_neg h4, if_pos h5]
      · have hrn : dRename tmpW (walNm (n + 1)) [(walNm n, s), (tmpW, (⟨true, b, []⟩ : Sp))] = (0, putF (walNm (n + 1)) ⟨true, b, []⟩ [(walNm n, s)]) := by
          unfold dRename
          rw [hg3]
          dsimp only
          rw [if_pos (walNm_ok (n + 1) (by omega)), hd]
        have hR3 : Rises [(walNm n, s)] := by unfold Rises; simp
        have hg4 : getS (walNm n) (putF (walNm (n + 1)) (⟨true, b, []⟩ : Sp) [(walNm n, s)]) = some s := by
          rw [getS_put hR3, if_neg (fun e => hne e.symm), getS_one]
        have hrm : dRemove (walNm n) (putF (walNm (n + 1)) (⟨true, b, []⟩ : Sp) [(walNm n, s)]) = (0, [(walNm (n + 1), ⟨true, b, []⟩)]) := by
          unfold dRemove
          rw [hg4]
          dsimp only
          unfold putF
          split
          · simp [putF, delF, hne]
          · rw [if_neg (fun e => hne e.symm)]
            simp [delF, hne]
        have hR : wReplace room n b [(walNm n, s)] = (0, [(walNm (n + 1), ⟨true, b, []⟩)]) := by
          unfold wReplace
          rw [hw, if_neg (by simp), hs, if_neg (by simp), if_neg h5, if_neg (by simp), hrn, if_neg (by simp; omega), hrm]
        rw [wAnew_of hR, if_pos rfl, if_neg h3, if_neg h4, if_neg h5]
/-- The first log of a disk. -/
theorem wOpen_none (room : Nat) : wOpen room [] = (if room < 22 then (9, [], none) else (0, [(walNm 1, ⟨true, allB wc0, []⟩)], some (wc0, 1))) := by
  have hb : (allB wc0).length = 22 := by decide +kernel
  have hw : dWrite room tmpW 0 (allB wc0) [] = (if room < 22 then (9, []) else (0, [(tmpW, wrote sp0 0 (allB wc0))])) := by
    have e0 : (((getS tmpW ([] : Ds)).getD sp0).now.length : Int) = 0 := rfl
    unfold dWrite
    rw [if_neg (by rw [tmp_nameL]; simp), if_neg (by rw [e0]; omega), if_neg (by
      rintro (⟨_, h⟩ | h)
      · simp at h
      · rw [hb] at h; omega)]
    by_cases h4 : room < 22
    · rw [if_pos (by rw [e0, hb]; simp [usedS]; omega), if_pos h4]
    · rw [if_neg (by rw [e0, hb]; simp [usedS]; omega), if_neg h4]
      rfl
  unfold wOpen
  rw [if_neg (by simp [greatW])]
  show (if (wAnew room 0 (allB wc0) []).1 ≠ 0 then ((wAnew room 0 (allB wc0) []).1, (wAnew room 0 (allB wc0) []).2, none) else wTaken (wLoad 1 wc0 (wAnew room 0 (allB wc0) []).2)) = _
  by_cases h4 : room < 22
  · rw [if_pos h4] at hw
    have hR : wReplace room 0 (allB wc0) [] = (9, []) := by
      unfold wReplace
      rw [hw, if_pos (by simp)]
    have ha : wAnew room 0 (allB wc0) [] = (9, []) := by
      rw [wAnew_of hR]
      rfl
    rw [ha, if_pos (by simp), if_pos h4]
  · rw [if_neg h4] at hw
    have hR : wReplace room 0 (allB wc0) [] = (0, [(walNm 1, ⟨true, allB wc0, []⟩)]) := by
      unfold wReplace
      rw [hw]
      have hs : dSync tmpW [(tmpW, wrote sp0 0 (allB wc0))] = (0, [(tmpW, ⟨true, allB wc0, []⟩)]) := by
        unfold dSync
        rw [getS_one]
        dsimp only
        rw [now_wrote, putF_one]
      have hrn : dRename tmpW (walNm (0 + 1)) [(tmpW, (⟨true, allB wc0, []⟩ : Sp))] = (0, [(walNm 1, ⟨true, allB wc0, []⟩)]) := by
        unfold dRename
        rw [getS_one]
        dsimp only
        rw [if_pos (walNm_ok 1 (by omega))]
        simp [delF, putF]
      rw [if_neg (by simp), hs, if_neg (by simp), if_neg (by omega), if_neg (by simp), if_pos (.inr rfl), hrn]
    have ha : wAnew room 0 (allB wc0) [] = (0, [(walNm 1, ⟨true, allB wc0, []⟩)]) := by
      rw [wAnew_of hR, if_pos rfl]
    rw [ha, if_neg (by simp), if_neg h4]
    have hl : wLoad 1 wc0 [(walNm 1, ⟨true, allB wc0, []⟩)] = (0, [(walNm 1, ⟨true, allB wc0, []⟩)], wc0, 1) := by kernel_rfl
    rw [hl]
    rfl
/-- A log is taken from its file; what stands behind the whole records goes. -/
theorem wLoad_one (n : Nat) (c0 c : Wc) (s : Sp) (rs : List (List Nat)) (t : List Nat) (hn : s.now = cat rs ++ t) (ht : nextE t 0 = 3) (hl : ∀ r ∈ rs, r.length ≤ 65536) (hc : contR rs = some c) (hla : s.la = true) :
    wLoad n c0 [(walNm n, s)] = (0, [(walNm n, ⟨true, cat rs, []⟩)], c, n) := by
  have h1 : nowL (walNm n) [(walNm n, s)] = cat rs ++ t := by unfold nowL; rw [getS_one]; exact hn
  obtain ⟨q1, q2⟩ := rows_cut rs t hl ht
  have h2 : recsA (cat rs ++ t) = (rs, (cat rs).length) := recsA_is q1 q2 (by rw [List.length_append]; omega)
  have h3 : dCut (walNm n) ((cat rs).length : Int) [(walNm n, s)] = (0, [(walNm n, ⟨s.la, s.y, s.cs ++ [(true, (cat rs).length, [])]⟩)]) := by
    unfold dCut
    rw [getS_one]
    dsimp only
    rw [if_neg (by rw [hn, List.length_append]; omega), putF_one, Int.toNat_natCast]
  have h4 : dSync (walNm n) [(walNm n, ⟨s.la, s.y, s.cs ++ [(true, (cat rs).length, [])]⟩)] = (0, [(walNm n, ⟨true, cat rs, []⟩)]) := by
    unfold dSync
    rw [getS_one]
    dsimp only
    rw [putF_one]
    have : (⟨s.la, s.y, s.cs ++ [(true, (cat rs).length, [])]⟩ : Sp).now = cat rs := by
      show nowC (s.cs ++ [(true, (cat rs).length, [])]) s.y = _
      rw [nowC_snoc, show nowC s.cs s.y = cat rs ++ t from hn]
      show (cat rs ++ t).take (cat rs).length = _
      rw [List.take_left]
    rw [this]
  unfold wLoad
  rw [if_neg (by unfold readE; rw [getS_one]; simp), h1, h2]
  dsimp only
  rw [hc]
  dsimp only
  rw [h3, if_neg (by simp), h4]
theorem wOpen_one (room n : Nat) (s : Sp) (h1 : 1 ≤ n) (h2 : n ≤ 1099511627776) : wOpen room [(walNm n, s)] = wTaken (wLoad n wc0 [(walNm n, s)]) := by
  have hg : greatW ([(walNm n, s)].map (·.1)) 0 = n := by
    show max 0 (numW (walNm n)) = n
    rw [numW_walNm n h1 h2]
    omega
  unfold wOpen
  rw [hg, if_pos (by omega)]
  show wTaken (wLoad n wc0 (if othW n (walNm n) = true then _ else [(walNm n, s)])) = _
  have ho : othW n (walNm n) = false := by
    unfold othW
    rw [numW_walNm n h1 h2]
    simp [tmp_ne n]
  rw [if_neg (by rw [ho]; simp)]
/-- A log's disk: what is synced (r1) and what was written since (r2). -/
structure LS (room : Nat) (ss : Ds) (c : Wc) (n : Nat) (r1 r2 : List (List Nat)) : Prop where
  n1 : 1 ≤ n
  n2 : n ≤ 1099511627776
  fil : ∃ cs, ss = [(walNm n, ⟨true, cat r1, cs⟩)] ∧ Apps cs (cat r1) (cat r2)
  cont : contR (r1 ++ r2) = some c
  first : ∃ c1, contR r1 = some c1
  len : ∀ r ∈ r1 ++ r2, r.length ≤ 65536
  fit : (cat (r1 ++ r2)).length ≤ room
section
variable {room n : Nat} {ss : Ds} {c : Wc} {r1 r2 : List (List Nat)}
theorem LS.ix (h : LS room ss c n r1 r2) : Ix c := contR_ix h.cont
theorem LS.one {rs : List (List Nat)} (h1 : 1 ≤ n) (h2 : n ≤ 1099511627776) (hc : contR rs = some c) (hl : ∀ r ∈ rs, r.length ≤ 65536) (hf : (cat rs).length ≤ room) : LS room [(walNm n, ⟨true, cat rs, []⟩)] c n rs [] :=
  ⟨h1, h2, ⟨[], rfl, rfl⟩, by rw [List.append_nil]; exact hc, ⟨c, hc⟩, by rw [List.append_nil]; exact hl, by rw [List.append_nil]; exact hf⟩
theorem LS.begin (hr : 22 ≤ room) : wOpen room [] = (0, [(walNm 1, ⟨true, cat (allR wc0), []⟩)], some (wc0, 1)) ∧ LS room [(walNm 1, ⟨true, cat (allR wc0), []⟩)] wc0 1 (allR wc0) [] := by
  have hb : (allB wc0).length = 22 := by decide +kernel
  refine ⟨?_, LS.one (by omega) (by omega) (contR_allR wc0_ok Ix.nil) (allR_len wc0_ok) (by rw [cat_allR, hb]; exact hr)⟩
  rw [cat_allR, wOpen_none, if_neg (by omega)]
theorem LS.now (h : LS room ss c n r1 r2) : ∃ s, ss = [(walNm n, s)] ∧ s.la = true ∧ s.now = cat (r1 ++ r2) := by
  obtain ⟨cs, rfl, ha⟩ := h.fil
  refine ⟨_, rfl, rfl, ?_⟩
  show nowC cs (cat r1) = _
  rw [ha.now, cat_app]
/-- Opened again. -/
theorem LS.again (h : LS room ss c n r1 r2) : wOpen room ss = (0, [(walNm n, ⟨true, cat (r1 ++ r2), []⟩)], some (c, n)) ∧ LS room [(walNm n, ⟨true, cat (r1 ++ r2), []⟩)] c n (r1 ++ r2) [] := by
  obtain ⟨s, rfl, h1, h2⟩ := h.now
  refine ⟨?_, LS.one h.n1 h.n2 h.cont h.len h.fit⟩
  rw [wOpen_one room n s h.n1 h.n2, wLoad_one n wc0 c s (r1 ++ r2) [] (by rw [h2, List.append_nil]) nextE_nil h.len h.cont h1]
  rfl
theorem LS.sync (h : LS room ss c n r1 r2) : dSync (walNm n) ss = (0, [(walNm n, ⟨true, cat (r1 ++ r2), []⟩)]) ∧ LS room [(walNm n, ⟨true, cat (r1 ++ r2), []⟩)] c n (r1 ++ r2) [] := by
  obtain ⟨s, rfl, h1, h2⟩ := h.now
  refine ⟨?_, LS.one h.n1 h.n2 h.cont h.len h.fit⟩
  unfold dSync
  rw [getS_one]
  dsimp only
  rw [putF_one, h2]
/-- Behind a crash: the records that are synced, and some of those behind them. -/
theorem LS.crash (h : LS room ss c n r1 r2) (ks : List Int) : ∃ m c', m ≤ r2.length ∧ contR (r1 ++ r2.take m) = some c' ∧ wOpen room (crashS ks 0 ss) = (0, [(walNm n, ⟨true, cat (r1 ++ r2.take m), []⟩)], some (c', n)) ∧ LS room [(walNm n, ⟨true, cat (r1 ++ r2.take m), []⟩)] c' n (r1 ++ r2.take m) [] := by
  obtain ⟨cs, rfl, ha⟩ := h.fil
  obtain ⟨c1, hc1⟩ := h.first
  have hcr : crashS ks 0 [(walNm n, (⟨true, cat r1, cs⟩ : Sp))] = [(walNm n, ⟨true, cat r1 ++ (cat r2).take (unitsAt ks 0), []⟩)] := by
    show crashOne (unitsAt ks 0) (walNm n, (⟨true, cat r1, cs⟩ : Sp)) ++ [] = _
    unfold crashOne
    rw [if_neg (by simp), ha.crash]
    rfl
  have hl2 : ∀ r ∈ r2, r.length ≤ 65536 := fun r hr => h.len r (List.mem_append_right _ hr)
  obtain ⟨m, t, hm, e1, e2⟩ : ∃ m t, m ≤ r2.length ∧ (cat r2).take (unitsAt ks 0) = cat (r2.take m) ++ t ∧ nextE t 0 = 3 := by
    by_cases hU : unitsAt ks 0 ≤ (cat r2).length
    · obtain ⟨m, t, a, b, d, _⟩ := cut_at r2 _ hl2 hU
      exact ⟨m, t, a, b, d⟩
    · exact ⟨r2.length, [], Nat.le_refl _, by rw [List.take_of_length_le (by omega), List.take_length, List.append_nil], nextE_nil⟩
  obtain ⟨c', hc'⟩ := foldR_take m (contR_part hc1 h.cont)
  have hcont : contR (r1 ++ r2.take m) = some c' := contR_app hc1 hc'
  have hlen : ∀ r ∈ r1 ++ r2.take m, r.length ≤ 65536 := fun r hr => by
    rcases List.mem_append.1 hr with hr | hr
    · exact h.len r (List.mem_append_left _ hr)
    · exact hl2 r (List.mem_of_mem_take hr)
  have hfit : (cat (r1 ++ r2.take m)).length ≤ room := by
    have h1 := h.fit
    have h2 : ((cat r2).take (unitsAt ks 0)).length = (cat (r2.take m) ++ t).length := by rw [e1]
    rw [cat_app, List.length_append] at h1 ⊢
    rw [List.length_take, List.length_append] at h2
    omega
  refine ⟨m, c', hm, hcont, ?_, LS.one h.n1 h.n2 hcont hlen hfit⟩
  rw [hcr, wOpen_one room n _ h.n1 h.n2, wLoad_one n wc0 c' _ (r1 ++ r2.take m) t ?_ e2 hlen hcont rfl]
  · rfl
  · show cat r1 ++ (cat r2).take (unitsAt ks 0) = _
    rw [e1, cat_app, List.append_assoc]
/-- Records are added at the end. -/
theorem LS.add (h : LS room ss c n r1 r2) {rs : List (List Nat)} {c' : Wc} (hb : (cat rs).length + (cat (r1 ++ r2)).length ≤ 262144) (hf : foldR c rs = some c') (hl : ∀ r ∈ rs, r.length ≤ 65536) :
    (room < (cat (r1 ++ r2)).length + (cat rs).length ∧ wAddR room n c (cat rs) ss = (9, ss, n)) ∨ ∃ ss', wAddR room n c (cat rs) ss = (0, ss', n) ∧ LS room ss' c' n r1 (r2 ++ rs) := by
  obtain ⟨cs, hss, ha⟩ := h.fil
  obtain ⟨s, hs, hla, hnow⟩ := h.now
  have hnl : nowL (walNm n) ss = cat (r1 ++ r2) := by rw [hs]; unfold nowL; rw [getS_one]; exact hnow
  have hre : readE (walNm n) ss = 0 := by rw [hs]; unfold readE; rw [getS_one]; rfl
  have hw : dWrite room (walNm n) ((cat (r1 ++ r2)).length : Int) (cat rs) ss = (if room < (cat (r1 ++ r2)).length + (cat rs).length then (9, ss) else (0, [(walNm n, wrote s (cat (r1 ++ r2)).length (cat rs))])) := by
    unfold dWrite
    rw [hs, if_neg (by rw [walNm_ok n (by have := h.n2; omega)]; simp), getS_one]
    have e0 : ((some s).getD sp0).now.length = (cat (r1 ++ r2)).length := by show s.now.length = _; rw [hnow]
    rw [e0, if_neg (by omega), if_neg (by
      rintro (⟨h, _⟩ | h)
      · simp at h
      · omega), used_one, hnow]
    by_cases h4 : room < (cat (r1 ++ r2)).length + (cat rs).length
    · rw [if_pos (by omega), if_pos h4]
    · rw [if_neg (by omega), if_neg h4, putF_one, Int.toNat_natCast]
      rfl
  unfold wAddR
  rw [hre, if_neg (by simp), hnl, if_pos hb, hw]
  by_cases h4 : room < (cat (r1 ++ r2)).length + (cat rs).length
  · left
    rw [if_pos h4]
    exact ⟨h4, rfl⟩
  · right
    rw [if_neg h4]
    refine ⟨_, rfl, h.n1, h.n2, ?_, ?_, h.first, ?_, ?_⟩
    · rw [hss] at hs
      simp only [List.cons.injEq, Prod.mk.injEq, true_and, and_true] at hs
      subst hs
      unfold wrote
      split
      · rename_i h0
        have hz : cat rs = [] := List.eq_nil_of_length_eq_zero h0
        exact ⟨cs, rfl, by rw [cat_app, hz, List.append_nil]; exact ha⟩
      · refine ⟨_, rfl, ?_⟩
        have := ha.snoc (cat rs)
        rw [← cat_app, ← cat_app] at this
        exact this
    · rw [← List.append_assoc]
      exact contR_app h.cont hf
    · intro r hr
      rw [← List.append_assoc] at hr
      rcases List.mem_append.1 hr with hr | hr
      · exact h.len r hr
      · exact hl r hr
    · rw [← List.append_assoc, cat_app, List.length_append]
      omega
/-- The log is written anew. -/
theorem LS.anew (h : LS room ss c n r1 r2) {c2 : Wc} (hk : WOk c2) (hi : Ix c2) :
    (∃ e, e ≠ 0 ∧ wAnew room n (allB c2) ss = (e, ss)) ∨ (n + 1 ≤ 1099511627776 ∧ (allB c2).length ≤ 262144 ∧ wAnew room n (allB c2) ss = (0, [(walNm (n + 1), ⟨true, cat (allR c2), []⟩)]) ∧ LS room [(walNm (n + 1), ⟨true, cat (allR c2), []⟩)] c2 (n + 1) (allR c2) []) := by
  obtain ⟨s, rfl, hla, hnow⟩ := h.now
  rw [wAnew_one room n (allB c2) s h.n1 h.n2]
  have hn := h.n2
  split
  · exact .inl ⟨6, by omega, rfl⟩
  split
  · exact .inl ⟨9, by omega, rfl⟩
  split
  · exact .inl ⟨6, by omega, rfl⟩
  · right
    rename_i h3 h4 h5
    refine ⟨by omega, by omega, by rw [cat_allR], LS.one (by omega) (by omega) (contR_allR hk hi) (allR_len hk) ?_⟩
    rw [cat_allR]
    omega
theorem LS.new (h : LS room ss c n r1 r2) {c2 : Wc} (hk : WOk c2) (hi : Ix c2) :
    (∃ e, e ≠ 0 ∧ wNew room n c c2 ss = (e, ss, c, n)) ∨ (∃ ss', wNew room n c c2 ss = (0, ss', c2, n + 1) ∧ LS room ss' c2 (n + 1) (allR c2) []) := by
  unfold wNew
  rcases h.anew hk hi with ⟨e, he, h1⟩ | ⟨_, _, h1, h2⟩
  · rw [h1, if_pos he]
    exact .inl ⟨e, he, rfl⟩
  · rw [h1, if_neg (by simp)]
    exact .inr ⟨_, rfl, h2⟩
theorem LS.hard (h : LS room ss c n r1 r2) {t v : Nat} (ht : t ≤ 1099511627776) (hv : v ≤ 9) (hr : room ≤ 262000) :
    (∃ e, wHard room n c t v ss = (e, ss, c, n)) ∨ (∃ ss', wHard room n c t v ss = (0, ss', { c with ht := t, hv := v }, n) ∧ LS room ss' { c with ht := t, hv := v } n r1 (r2 ++ [recH t v])) := by
  unfold wHard
  split
  · exact .inl ⟨0, rfl⟩
  · have hb : cat [recH t v] = hardB t v := by simp [cat]; rfl
    have hl := hardB_len t v ht hv
    rcases h.add (rs := [recH t v]) (c' := { c with ht := t, hv := v }) (by rw [hb]; have := h.fit; omega) (by rw [foldR_cons, takeR_hard c ht hv]; rfl) (fun r hr => by rw [List.mem_singleton.1 hr]; exact recH_len ht hv) with ⟨_, h1⟩ | ⟨ss', h1, h2⟩
    · rw [hb] at h1
      rw [h1, if_pos (by simp)]
      exact .inl ⟨9, rfl⟩
    · rw [hb] at h1
      rw [h1, if_neg (by simp)]
      exact .inr ⟨ss', rfl, h2⟩
/-- Entries that may be added are added, if there is room. -/
theorem LS.append_ok (h : LS room ss c n r1 r2) {es : List EntI} {b : List Nat} (hr : recsE es = .ok b) (hfa : fitAllW c es = true) (hb : b.length + (cat (r1 ++ r2)).length ≤ 262144) :
    (room < (cat (r1 ++ r2)).length + b.length ∧ 0 < es.length ∧ wAppend room n c es ss = (9, ss, c, n)) ∨ (∃ ss', wAppend room n c es ss = (0, ss', addAll c es, n) ∧ LS room ss' (addAll c es) n r1 (r2 ++ es.map fun e => recE (toN e))) := by
  unfold wAppend
  rw [hr]
  dsimp only
  rw [if_neg (by rw [hfa]; simp)]
  by_cases h2 : es.length = 0
  · right
    obtain rfl := List.eq_nil_of_length_eq_zero h2
    rw [if_pos h2]
    refine ⟨ss, rfl, ?_⟩
    rw [List.map_nil, List.append_nil]
    exact h
  · rw [if_neg h2]
    have hall := recsE_all hr
    have hf := fit_at (c := c) (es := es) hfa (fun e he => by
      obtain ⟨q1, ⟨_, _, ⟨q2, q3⟩, _⟩⟩ := hall e he
      simp only [toN] at q2 q3
      omega)
    have hfold := fold_addAll (fun e he => (hall e he).2) hf es.length (Nat.le_refl _)
    rw [List.take_length] at hfold
    have hcat := recsE_cat hr
    rcases h.add (rs := es.map fun e => recE (toN e)) (c' := addAll c es) (by rw [← hcat]; exact hb) hfold (fun r hr => by
      obtain ⟨e, he, rfl⟩ := List.mem_map.1 hr
      exact recE_len (hall e he).2) with ⟨q0, q⟩ | ⟨ss', q, q2⟩
    · rw [← hcat] at q q0
      rw [q, if_pos (by simp)]
      exact .inl ⟨q0, by omega, rfl⟩
    · rw [← hcat] at q
      rw [q, if_neg (by simp)]
      exact .inr ⟨ss', rfl, q2⟩
theorem wAppend_bad {es : List EntI} (h : (∃ x, recsE es = .error x) ∨ fitAllW c es = false) : ∃ e, wAppend room n c es ss = (e, ss, c, n) := by
  unfold wAppend
  cases hr : recsE es with
  | error x => exact ⟨x, rfl⟩
  | ok b =>
    rcases h with ⟨x, hx⟩ | h
    · rw [hr] at hx; cases hx
    · dsimp only
      rw [if_pos h]
      exact ⟨2, rfl⟩
/-- Entries are added. -/
theorem LS.append (h : LS room ss c n r1 r2) (es : List EntI) (hb : ∀ b, recsE es = .ok b → b.length + (cat (r1 ++ r2)).length ≤ 262144) :
    (∃ e, wAppend room n c es ss = (e, ss, c, n)) ∨ (∃ ss', wAppend room n c es ss = (0, ss', addAll c es, n) ∧ LS room ss' (addAll c es) n r1 (r2 ++ es.map fun e => recE (toN e))) := by
  cases hr : recsE es with
  | error x => exact .inl (wAppend_bad (.inl ⟨x, hr⟩))
  | ok b =>
    cases hfa : fitAllW c es with
    | false => exact .inl (wAppend_bad (.inr hfa))
    | true =>
      rcases h.append_ok hr hfa (hb b hr) with ⟨_, _, q⟩ | q
      · exact .inl ⟨9, q⟩
      · exact .inr q
end
end Go.Proofs.YtijcpmbfhfppmaaGreatDoor
end
/- Entries that came in, opened (without messages). -/
section
namespace Go.Proofs.YtijcpmbfhfppmaaGreatDoor
open Go.ChangeShapes Go.WideShapes Go.ChangeAt Go.RowKit

theorem cells4 {w : World} {a : Addr} {cs : List Value} (h : w.cells? 0 a 4 = some cs) : ∃ v0 v1 v2 v3, cs = [v0, v1, v2, v3] ∧ w.cell? (a.add 0) = some v0 ∧ w.cell? (a.add 1) = some v1 ∧ w.cell? (a.add 2) = some v2 ∧ w.cell? (a.add 3) = some v3 := by
  unfold World.cells? at h
  rw [if_pos (Nat.zero_le _)] at h
  simp only [show List.range 4 = [0, 1, 2, 3] from rfl, List.mapM_cons, List.mapM_nil, Option.bind_eq_bind, Option.bind_eq_some_iff, Option.pure_def, Option.some.injEq] at h
  obtain ⟨v0, h0, r, ⟨v1, h1, r1, ⟨v2, h2, r2, ⟨v3, h3, r3, rfl, rfl⟩, rfl⟩, rfl⟩, rfl⟩ := h
  exact ⟨v0, v1, v2, v3, rfl, h0, h1, h2, h3⟩
/-- The bounds of an entry that came in. -/
def EntBd (e : EntI) : Prop := (-9223372036854775808 ≤ e.1 ∧ e.1 ≤ 9223372036854775807) ∧ (-9223372036854775808 ≤ e.2.1 ∧ e.2.1 ≤ 9223372036854775807) ∧ (-9223372036854775808 ≤ e.2.2.1 ∧ e.2.2.1 ≤ 9223372036854775807) ∧ e.2.2.2.length ≤ maxLen
set_option maxRecDepth 20000 in
theorem ents_arg {H : Type} {enc : TypeId × Value → H} {W : World} {a : Option Addr} {len cap : Nat} {d : DataW H} {p : List MemPlace}
    (h : DataW.Trod enc Tryz.prog W 0 (fun _ => true) true 27 (.slice a len cap) d p) :
    ∃ es : List EntI, es.length = len ∧ len ≤ maxLen ∧ EntsAt W a es ∧ ∀ e ∈ es, EntBd e := by
  obtain ⟨fuel, hf⟩ := h
  have c4 : Tryz.prog.cellsOf 60 = 4 := by kernel_rfl
  rcases Deep.open_slice Tryz.underlying27 hf with ⟨hcs, _⟩ | ⟨x, l, c, m, n, D, Pl, hcs, _, hl, hm, hm', _, hel⟩
  · simp [Value.cells] at hcs
    obtain ⟨rfl, rfl, rfl⟩ := hcs
    exact ⟨[], rfl, by simp [maxLen], ⟨by simp⟩, by simp⟩
  · simp [Value.cells] at hcs
    obtain ⟨rfl, rfl, rfl⟩ := hcs
    have hmm : m = cap := by simpa using hm'
    rw [c4] at hel
    have hone : ∀ i, i < len → ∃ (e : EntI) (dp : Option Addr) (dc : Nat), W.cell? ((x.add (i * 4)).add 0) = some (.int .i64 e.1) ∧ W.cell? ((x.add (i * 4)).add 1) = some (.int .i64 e.2.1) ∧ W.cell? ((x.add (i * 4)).add 2) = some (.int .i64 e.2.2.1) ∧ W.cell? ((x.add (i * 4)).add 3) = some (.slice dp e.2.2.2.length dc) ∧ BytesAt W dp e.2.2.2 ∧ (dp = none → dc = 0) ∧ EntBd e := by
      intro i hi
      obtain ⟨cs', h1, h2⟩ := hel i (by omega)
      obtain ⟨v0, v1, v2, v3, rfl, g0, g1, g2, g3⟩ := cells4 h1
      obtain ⟨y0, y1, y2, y3, n', _, _, t0, t1, t2, t3⟩ := Joins.trod_struct4 Tryz.underlying60 h2
      obtain ⟨k, e0, _, w0⟩ := DataW.trod_int Tryz.underlying57 (show DataW.trod enc Tryz.prog W 0 (fun _ => true) true n' 57 [v0] = some y0 from t0)
      obtain ⟨t, e1, _, w1⟩ := DataW.trod_int Tryz.underlying3 (show DataW.trod enc Tryz.prog W 0 (fun _ => true) true n' 3 [v1] = some y1 from t1)
      obtain ⟨j, e2, _, w2⟩ := DataW.trod_int Tryz.underlying3 (show DataW.trod enc Tryz.prog W 0 (fun _ => true) true n' 3 [v2] = some y2 from t2)
      have t3' : DataW.trod enc Tryz.prog W 0 (fun _ => true) true n' 58 [v3] = some y3 := t3
      obtain ⟨a', l', c', e3⟩ := Joins.slice_form Tryz.underlying58 t3'
      simp only [List.cons.injEq, and_true] at e0 e1 e2 e3
      subst e0 e1 e2 e3
      have hs : DataW.Trod enc Tryz.prog W 0 (fun _ => true) true 58 (.slice a' l' c') y3.1 y3.2 := ⟨n', t3'⟩
      obtain ⟨bs, rfl, hc, hx, hb, hz, _⟩ := row8 hs
      exact ⟨(k, t, j, bs), a', c', g0, g1, g2, g3, hb, hz, i64_bounds w0, i64_bounds w1, i64_bounds w2, by simp only; omega⟩
    obtain ⟨f, hfp⟩ := Deep.choose_lt (n := len) (p := fun i (e : EntI) => ∃ (dp : Option Addr) (dc : Nat), W.cell? ((x.add (i * 4)).add 0) = some (.int .i64 e.1) ∧ W.cell? ((x.add (i * 4)).add 1) = some (.int .i64 e.2.1) ∧ W.cell? ((x.add (i * 4)).add 2) = some (.int .i64 e.2.2.1) ∧ W.cell? ((x.add (i * 4)).add 3) = some (.slice dp e.2.2.2.length dc) ∧ BytesAt W dp e.2.2.2 ∧ (dp = none → dc = 0) ∧ EntBd e) (fun i hi => hone i hi)
    refine ⟨(List.range len).map f, by simp, by omega, ⟨fun i hi => ?_⟩, ?_⟩
    · simp only [List.length_map, List.length_range] at hi
      obtain ⟨dp, dc, h0, h1, h2, h3, h4, h5, _⟩ := hfp i hi
      have e : ((List.range len).map f)[i]'(by simpa using hi) = f i := by simp
      rw [e]
      obtain ⟨b, off, spot⟩ := x
      obtain ⟨_, _, h00, _⟩ := hfp 0 (by omega)
      have hspot : spot = none := by simpa [Addr.add] using World.cell?_spot h00
      subst hspot
      simp only [Addr.add_lit] at h0 h1 h2 h3
      exact ⟨b, off, dp, dc, rfl, h0, h1, h2, h3, h4, h5⟩
    · intro e he
      obtain ⟨i, hi, rfl⟩ := List.mem_map.1 he
      obtain ⟨dp, dc, _, _, _, _, _, _, h6⟩ := hfp i (List.mem_range.1 hi)
      exact h6
end Go.Proofs.YtijcpmbfhfppmaaGreatDoor
end
