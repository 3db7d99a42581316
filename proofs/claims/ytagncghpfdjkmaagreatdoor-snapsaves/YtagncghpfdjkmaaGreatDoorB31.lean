/- Disk: bytes of one's own that are written to; what a torn write leaves. -/
import Derived.Test.YtagncghpfdjkmaaGreatDoorB08
import Derived.Lib.SmallJoins
import Derived.OpenShut
import Derived.Test.YtagncghpfdjkmaaGreatDoorB09
section
namespace Go.Proofs.YtagncghpfdjkmaaGreatDoor
open Go.ChangeShapes Go.WideShapes Go.ChangeAt Go.RowKit Go.Maps

theorem Bx.set {base : Nat} {w : World} {sp : Option Addr} {c : Nat} {l : List Nat} (h : Bx base w sp c l) (j : Nat) (hj : j < l.length) (y : Nat) (hy : y < 256) :
    ∃ g, sp = some ⟨g, 0, none⟩ ∧ base ≤ g ∧ w.cell? ⟨g, j, none⟩ = some (byteV l[j]) ∧ w.frozen? ⟨g, j, none⟩ = false ∧ Bx base (w.setCell ⟨g, j, none⟩ (.int .u8 (y : Int))) sp c (l.set j y) ∧ w.grownBy (w.setCell ⟨g, j, none⟩ (.int .u8 (y : Int))) (some g) := by
  rcases h.row with ⟨_, _, rfl⟩ | ⟨g, cur, rfl, hb, hg, hle, hcc, hmx, ht⟩
  · simp at hj
  · refine ⟨g, rfl, hb, ?_, ffree hg j, ⟨?_, .inr ⟨g, cur.set j (.int .u8 (y : Int)), rfl, hb, ?_, by rw [List.length_set]; exact hle, by rw [List.length_set]; exact hcc, hmx, ?_⟩⟩, grown_set w g j _⟩
    · rw [cell_of_row w g j _ _ _ hg]
      have e : (l.map byteV)[j]? = some (byteV l[j]) := by rw [List.getElem?_map, List.getElem?_eq_getElem hj]; rfl
      rw [← ht, List.getElem?_take, if_pos hj] at e
      simpa using e
    · intro x hx
      rcases List.mem_or_eq_of_mem_set hx with hx | rfl
      · exact h.lt x hx
      · exact hy
    · rw [heap_setCell_same w g j cur.toArray 5 (.int .u8 (y : Int)) hg]
      simp
    · rw [List.length_set, List.take_set, ht, List.map_set]
      rfl
theorem overL_set (A : List Nat) (k j : Nat) (o : List Nat) (hk : k ≤ A.length) (hj : j < o.length) (hin : k + j < A.length) : overL A k (o.take (j + 1)) = (overL A k (o.take j)).set (k + j) o[j] := by
  have h1 : (o.take j).length = j := by rw [List.length_take]; omega
  have h2 : (o.take (j + 1)).length = j + 1 := by rw [List.length_take]; omega
  have h3 : (A.take k).length = k := by rw [List.length_take]; omega
  unfold overL
  rw [h1, h2, List.set_append_right _ _ (by omega), h3, List.set_append_right _ _ (by omega), h1]
  rw [show k + j - k - j = 0 by omega, List.drop_eq_getElem_cons hin, List.set_cons_zero, List.take_succ_eq_append_getElem hj, List.append_assoc]
  rfl
theorem overL_app (A : List Nat) (k j : Nat) (o : List Nat) (hj : j < o.length) (hin : ¬ k + j < A.length) : overL A k (o.take (j + 1)) = overL A k (o.take j) ++ [o[j]] := by
  have h1 : (o.take j).length = j := by rw [List.length_take]; omega
  have h2 : (o.take (j + 1)).length = j + 1 := by rw [List.length_take]; omega
  unfold overL
  rw [h1, h2, List.take_succ_eq_append_getElem hj, List.drop_of_length_le (by omega), List.drop_of_length_le (by omega)]
  simp
end Go.Proofs.YtagncghpfdjkmaaGreatDoor
end
/- The document's disk: units, what they make of bytes (plain). -/
section
namespace Go.Proofs.YtagncghpfdjkmaaGreatDoor
open Go.ChangeShapes Go.WideShapes Go.ChangeAt Go.RowKit Go.Maps

/-- A unit: a Cut, or a byte at a place. -/
abbrev Un := Bool × Nat × Nat
def unitsOf (c : Chg) : List Un := if c.1 then [(true, c.2.1, 0)] else (List.range c.2.2.length).map (fun i => (false, c.2.1 + i, c.2.2.getD i 0))
def usL (cs : List Chg) : List Un := cs.flatMap unitsOf
def stepU (y : List Nat) (u : Un) : List Nat := if u.1 then y.take u.2.1 else if u.2.1 < y.length then y.set u.2.1 u.2.2 else y ++ [u.2.2]
def madeU (us : List Un) (y : List Nat) (j : Nat) : List Nat := (us.take j).foldl stepU y
theorem madeU_zero (us : List Un) (y : List Nat) : madeU us y 0 = y := rfl
theorem madeU_succ (us : List Un) (y : List Nat) (j : Nat) (hj : j < us.length) : madeU us y (j + 1) = stepU (madeU us y j) us[j] := by
  unfold madeU
  rw [List.take_succ_eq_append_getElem hj, List.foldl_append]
  rfl
theorem madeU_all (us : List Un) (y : List Nat) (j : Nat) (hj : us.length ≤ j) : madeU us y j = madeU us y us.length := by
  unfold madeU
  rw [List.take_of_length_le hj, List.take_of_length_le (Nat.le_refl _)]
theorem madeU_app (p r : List Un) (y : List Nat) (j : Nat) : madeU (p ++ r) y (p.length + j) = madeU r (madeU p y p.length) j := by
  unfold madeU
  rw [List.take_append, List.take_of_length_le (by omega), List.take_of_length_le (Nat.le_refl _), List.foldl_append]
  rw [show p.length + j - p.length = j by omega]
theorem madeU_left (p r : List Un) (y : List Nat) (j : Nat) (hj : j ≤ p.length) : madeU (p ++ r) y j = madeU p y j := by
  unfold madeU
  rw [List.take_append_of_le_length hj]
theorem unitsOf_length (c : Chg) : (unitsOf c).length = unitsC c := by
  unfold unitsOf unitsC
  split <;> simp
theorem made_write (z : Nat) (o : List Nat) (y : List Nat) (hz : z ≤ y.length) : ∀ j, j ≤ o.length → madeU (unitsOf (false, z, o)) y j = overL y z (o.take j)
  | 0, _ => by rw [madeU_zero, List.take_zero, overL_nil]
  | j + 1, hj => by
    have hl : (unitsOf (false, z, o)).length = o.length := by rw [unitsOf_length]; rfl
    have hu : (unitsOf (false, z, o))[j]'(by omega) = (false, z + j, o[j]) := by
      simp only [unitsOf, Bool.false_eq_true, if_false, List.getElem_map, List.getElem_range]
      rw [List.getD_eq_getElem?_getD, List.getElem?_eq_getElem (by omega)]
      rfl
    rw [madeU_succ _ _ _ (by omega), made_write z o y hz j (by omega), hu]
    unfold stepU
    simp only [Bool.false_eq_true, if_false]
    have hlen : (overL y z (o.take j)).length = max y.length (z + j) := by rw [overL_length _ _ _ hz, List.length_take]; omega
    by_cases hin : z + j < y.length
    · rw [if_pos (by omega), overL_set y z j o hz (by omega) hin]
    · rw [if_neg (by omega), overL_app y z j o (by omega) hin]
/-- The first units are what a crash leaves of the changes; a Cut stands within the bytes. -/
theorem made_crash : ∀ (cs : List Chg) (y : List Nat), fitsC cs y → (∀ c ∈ cs, smallC c) → (∀ j, j ≤ (usL cs).length → madeU (usL cs) y j = (crashL cs y j).1) ∧ (∀ j (hj : j < (usL cs).length), (usL cs)[j].1 = true → (usL cs)[j].2.1 ≤ (madeU (usL cs) y j).length)
  | [], y, _, _ => by
    refine ⟨fun j hj => ?_, fun j hj => ?_⟩
    · simp only [usL, List.flatMap_nil, List.length_nil, Nat.le_zero] at hj
      subst hj
      rfl
    · simp [usL] at hj
  | c :: cs, y, hf, hs => by
    have hsc := hs c List.mem_cons_self
    have ih := made_crash cs (ontoC c y (unitsC c)) hf.2.2 (fun x hx => hs x (List.mem_cons_of_mem _ hx))
    have hus : usL (c :: cs) = unitsOf c ++ usL cs := by simp [usL]
    have hlc := unitsOf_length c
    have hpos : 0 < unitsC c := by
      unfold unitsC
      cases h : c.1 with
      | true => simp
      | false => simp only [Bool.false_eq_true, if_false]; exact (hsc.1 h).2
    have hfirst : ∀ j, j ≤ unitsC c → madeU (unitsOf c) y j = if j = 0 then y else ontoC c y j := by
      intro j hj
      obtain ⟨cut, z, o⟩ := c
      cases cut with
      | true =>
        have : unitsC (true, z, o) = 1 := rfl
        rw [this] at hj
        rcases (show j = 0 ∨ j = 1 by omega) with rfl | rfl
        · rw [if_pos rfl]; rfl
        · rw [if_neg (by omega)]; simp [madeU, unitsOf, stepU, ontoC]
      | false =>
        rw [made_write z o y hf.1 j hj]
        split
        · rename_i h; subst h; rw [List.take_zero, overL_nil]
        · simp [ontoC]
    have hall : madeU (unitsOf c) y (unitsOf c).length = ontoC c y (unitsC c) := by
      rw [hlc, hfirst _ (Nat.le_refl _), if_neg (by omega)]
    refine ⟨fun j hj => ?_, fun j hj hcut => ?_⟩
    · rw [hus] at hj ⊢
      rw [List.length_append] at hj
      by_cases h1 : j ≤ unitsC c
      · rw [madeU_left _ _ _ _ (by omega), hfirst j h1]
        unfold crashL
        split
        · rfl
        · rw [show min j (unitsC c) = j by omega, Nat.sub_self, crashL_zero]
      · obtain ⟨i, rfl⟩ : ∃ i, j = (unitsOf c).length + i := ⟨j - (unitsOf c).length, by omega⟩
        rw [madeU_app, hall, ih.1 i (by omega)]
        unfold crashL
        rw [if_neg (by omega), show min ((unitsOf c).length + i) (unitsC c) = unitsC c by omega, show (unitsOf c).length + i - unitsC c = i by omega]
        cases cs with
        | nil => rfl
        | cons x r => rfl
    · simp only [hus] at hj hcut ⊢
      rw [List.length_append] at hj
      by_cases h1 : j < (unitsOf c).length
      · rw [List.getElem_append_left h1] at hcut ⊢
        rw [madeU_left _ _ _ _ (by omega)]
        obtain ⟨cut, z, o⟩ := c
        cases cut with
        | true =>
          have : (unitsOf (true, z, o)).length = 1 := rfl
          rw [this] at h1
          obtain rfl : j = 0 := by omega
          exact hf.1
        | false => simp [unitsOf] at hcut
      · obtain ⟨i, rfl⟩ : ∃ i, j = (unitsOf c).length + i := ⟨j - (unitsOf c).length, by omega⟩
        rw [List.getElem_append_right (by omega)] at hcut ⊢
        simp only [show (unitsOf c).length + i - (unitsOf c).length = i by omega] at hcut ⊢
        rw [madeU_app, hall]
        exact ih.2 i (by omega) hcut
theorem crashL_all : ∀ (cs : List Chg) (y : List Nat), (∀ c ∈ cs, smallC c) → ∀ n, (usL cs).length ≤ n → crashL cs y n = (nowC cs y, n - (usL cs).length)
  | [], y, _, n, _ => by simp [crashL, nowC, usL]
  | c :: cs, y, hs, n, hn => by
    have hus : usL (c :: cs) = unitsOf c ++ usL cs := by simp [usL]
    rw [hus, List.length_append, unitsOf_length] at hn ⊢
    have hsc := hs c List.mem_cons_self
    have hpos : 0 < unitsC c := by
      unfold unitsC
      cases h : c.1 with
      | true => simp
      | false => simp only [Bool.false_eq_true, if_false]; exact (hsc.1 h).2
    unfold crashL
    rw [if_neg (by omega), show min n (unitsC c) = unitsC c by omega, crashL_all cs _ (fun x hx => hs x (List.mem_cons_of_mem _ hx)) _ (by omega)]
    simp only [nowC, Prod.mk.injEq, true_and]
    omega
/-- What a file's changes must be for its units to be read. -/
structure SOk (s : Sp) : Prop where
  fit : fitsC s.cs s.y
  small : ∀ c ∈ s.cs, smallC c
  y8 : s.y.length ≤ 262144
  yb : ∀ b ∈ s.y, b < 256
  cb : ∀ c ∈ s.cs, ∀ b ∈ c.2.2, b < 256
def Sp.us (s : Sp) : List Un := usL s.cs
section
variable {s : Sp}
theorem SOk.made (h : SOk s) (n : Nat) : madeU s.us s.y n = (crashL s.cs s.y n).1 := by
  by_cases hn : n ≤ s.us.length
  · exact (made_crash s.cs s.y h.fit h.small).1 n hn
  · have e1 := (made_crash s.cs s.y h.fit h.small).1 _ (Nat.le_refl _)
    rw [crashL_all s.cs s.y h.small _ (Nat.le_refl _)] at e1
    rw [madeU_all _ _ _ (by omega), crashL_all s.cs s.y h.small n (by have : s.us = usL s.cs := rfl; rw [this] at hn; omega)]
    exact e1
theorem SOk.now (h : SOk s) : madeU s.us s.y s.us.length = s.now := by
  have e1 := (made_crash s.cs s.y h.fit h.small).1 _ (Nat.le_refl _)
  rw [crashL_all s.cs s.y h.small _ (Nat.le_refl _)] at e1
  exact e1
theorem SOk.len (h : SOk s) (n : Nat) : (madeU s.us s.y n).length ≤ 262144 := by
  rw [h.made]
  exact crashL_small _ _ _ h.fit h.small h.y8
theorem SOk.cut (h : SOk s) (j : Nat) (hj : j < s.us.length) (hc : s.us[j].1 = true) : s.us[j].2.1 ≤ (madeU s.us s.y j).length := (made_crash s.cs s.y h.fit h.small).2 j hj hc
theorem SOk.byte (h : SOk s) (j : Nat) (hj : j < s.us.length) : s.us[j].2.2 < 256 := by
  have hm : s.us[j] ∈ s.us := List.getElem_mem hj
  obtain ⟨c, hc, hu⟩ := List.mem_flatMap.1 (show s.us[j] ∈ s.cs.flatMap unitsOf from hm)
  unfold unitsOf at hu
  split at hu
  · simp only [List.mem_singleton] at hu
    rw [hu]; simp
  · obtain ⟨i, hi, hu⟩ := List.mem_map.1 hu
    rw [← hu]
    have hi2 := List.mem_range.1 hi
    show c.2.2.getD i 0 < 256
    rw [List.getD_eq_getElem?_getD, List.getElem?_eq_getElem hi2]
    exact h.cb c hc _ (List.getElem_mem hi2)
theorem SOk.lt (h : SOk s) (n : Nat) : ∀ b ∈ madeU s.us s.y n, b < 256 := by
  rw [h.made]
  exact crashL_lt _ _ _ h.cb h.yb
end
end Go.Proofs.YtagncghpfdjkmaaGreatDoor
end
/- The document's disk in memory. -/
section
namespace Go.Proofs.YtagncghpfdjkmaaGreatDoor
open Go.ChangeShapes Go.WideShapes Go.ChangeAt Go.RowKit Go.Maps

def uRow (u : Un) : List Value := [.bool u.1, .int .i64 (u.2.1 : Int), .int .u8 (u.2.2 : Int)]
def rowsU (us : List Un) : List Value := us.flatMap uRow
theorem rowsU_length (us : List Un) : (rowsU us).length = us.length * 3 := by
  induction us with
  | nil => rfl
  | cons x xs ih => simp only [rowsU, List.flatMap_cons, List.length_append, List.length_cons, uRow, List.length_nil] at ih ⊢; omega
theorem rows_get {α : Type} (f : α → List Value) (n : Nat) (hf : ∀ x, (f x).length = n) : ∀ (xs : List α) (i k : Nat) (hi : i < xs.length) (_ : k < n), (xs.flatMap f)[i * n + k]? = (f xs[i])[k]?
  | [], i, _, hi, _ => by simp at hi
  | x :: xs, 0, k, _, hk => by
    simp only [List.flatMap_cons, Nat.zero_mul, Nat.zero_add, List.getElem_cons_zero]
    rw [List.getElem?_append_left (by rw [hf]; exact hk)]
  | x :: xs, i + 1, k, hi, hk => by
    have ih := rows_get f n hf xs i k (by simpa using hi) hk
    simp only [List.flatMap_cons, List.getElem_cons_succ]
    rw [List.getElem?_append_right (by rw [hf, Nat.succ_mul]; omega), hf]
    rw [show (i + 1) * n + k - n = i * n + k by rw [Nat.succ_mul]; omega]
    exact ih
/-- A row of one's own: cell k of element i. -/
theorem own_cell {base : Nat} {w : World} {T : TypeId} {n : Nat} {sp : Option Addr} {c m : Nat} {α : Type} (f : α → List Value) (hf : ∀ x, (f x).length = n) {xs : List α} (hm : xs.length = m) (h : w.ownsRow base T n (.slice sp m c) m (xs.flatMap f)) (i : Nat) (hi : i < xs.length) :
    ∃ g, sp = some ⟨g, 0, none⟩ ∧ ∀ k v, (f xs[i])[k]? = some v → w.cell? ⟨g, i * n + k, none⟩ = some v := by
  subst hm
  rcases h.2 with ⟨_, h0⟩ | ⟨g, cap, cur, hv, _, hg, _, _, _, ht⟩
  · omega
  · simp only [Value.slice.injEq] at hv
    obtain ⟨rfl, _, _⟩ := hv
    refine ⟨g, rfl, fun k v hv => ?_⟩
    have hk : k < n := by rw [← hf xs[i]]; exact (List.getElem?_eq_some_iff.1 hv).1
    rw [cell_of_row w g _ cur _ _ hg]
    have e := rows_get f n hf xs i k hi hk
    have hlt : i * n + k < xs.length * n := by
      have h1 : i + 1 ≤ xs.length := hi
      have h2 : (i + 1) * n ≤ xs.length * n := Nat.mul_le_mul_right n h1
      rw [Nat.succ_mul] at h2
      omega
    rw [← ht, List.getElem?_take, if_pos hlt, hv] at e
    simpa using e
theorem own_is {base : Nat} {w : World} {T : TypeId} {n m : Nat} {sp : Option Addr} {c : Nat} {l : List Value} (h : w.ownsRow base T n (.slice sp m c) m l) : ∀ g, blk sp = some g → base ≤ g ∧ g < w.heap.size ∧ ∃ cur : Array Value, w.heap[g]? = some (.cells cur T (0, 0)) := by
  intro g hg
  rcases h.2 with ⟨hv, _⟩ | ⟨g1, cap, cur, hv, hb, hh, _⟩
  · simp only [Value.slice.injEq] at hv
    rw [hv.1] at hg
    cases hg
  · simp only [Value.slice.injEq] at hv
    rw [hv.1] at hg
    obtain rfl : g1 = g := by simpa [blk] using hg
    exact ⟨hb, (Array.getElem?_eq_some_iff.1 hh).1, _, hh⟩
theorem own_same {base : Nat} {w w' : World} {T : TypeId} {n m : Nat} {sp : Option Addr} {c : Nat} {l : List Value} (h : w.ownsRow base T n (.slice sp m c) m l) (hs : ∀ g, blk sp = some g → w'.heap[g]? = w.heap[g]?) : w'.ownsRow base T n (.slice sp m c) m l := by
  refine ⟨h.1, ?_⟩
  rcases h.2 with hv | ⟨g, cap, cur, hv, hb, hg, r⟩
  · exact .inl hv
  · refine .inr ⟨g, cap, cur, hv, hb, (hs g ?_).trans hg, r⟩
    simp only [Value.slice.injEq] at hv
    rw [hv.1]; rfl
theorem own_mono {base base' : Nat} {w : World} {T : TypeId} {n m : Nat} {sp : Option Addr} {c : Nat} {l : List Value} (h : w.ownsRow base T n (.slice sp m c) m l) (hb : base' ≤ base) : w.ownsRow base' T n (.slice sp m c) m l := ⟨h.1, h.2.imp id (fun ⟨g, cap, cur, h1, h2, h3⟩ => ⟨g, cap, cur, h1, Nat.le_trans hb h2, h3⟩)⟩
/-- Units of one's own. -/
def OwnU (base : Nat) (w : World) (sp : Option Addr) (c : Nat) (us : List Un) : Prop := w.ownsRow base 131 3 (.slice sp us.length c) us.length (us.flatMap uRow)
/-- A file by the document, and where it lies. -/
structure RV where
  s : Sp
  yp : Option Addr
  yc : Nat
  up : Option Addr
  uc : Nat
abbrev Rf := Nm × RV
def rfRow (x : Rf) : List Value := [.string (str x.1), .bool x.2.s.la, .slice x.2.yp x.2.s.y.length x.2.yc, .slice x.2.up x.2.s.us.length x.2.uc]
def rfVal (x : Rf) : Value := .agg #[.string (str x.1), .bool x.2.s.la, .slice x.2.yp x.2.s.y.length x.2.yc, .slice x.2.up x.2.s.us.length x.2.uc]
def rfObj (x : Rf) : Obj := .cells #[.string (str x.1), .bool x.2.s.la, .slice x.2.yp x.2.s.y.length x.2.yc, .slice x.2.up x.2.s.us.length x.2.uc] 120
def Rf.foot (x : Rf) (g : Nat) : Prop := blk x.2.yp = some g ∨ blk x.2.up = some g
structure RfAt (base : Nat) (w : World) (x : Rf) : Prop where
  ok : SOk x.2.s
  sure : Bx base w x.2.yp x.2.yc x.2.s.y
  units : OwnU base w x.2.up x.2.uc x.2.s.us
  few : x.2.s.us.length ≤ 100000000
structure OwnR (base : Nat) (w : World) (sp : Option Addr) (c : Nat) (rs : List Rf) : Prop where
  row : w.ownsRow base 120 4 (.slice sp rs.length c) rs.length (rs.flatMap rfRow)
  dat : ∀ x ∈ rs, RfAt base w x
def footR (sp : Option Addr) (rs : List Rf) (g : Nat) : Prop := blk sp = some g ∨ ∃ x ∈ rs, x.foot g
section
variable {base : Nat} {w w' : World} {sp : Option Addr} {c : Nat} {rs : List Rf} {x : Rf}
theorem RfAt.lt (h : RfAt base w x) {g : Nat} (hg : x.foot g) : base ≤ g ∧ g < w.heap.size := by
  rcases hg with hg | hg
  · exact ⟨(h.sure.isT g hg).1, (h.sure.isT g hg).2.1⟩
  · exact ⟨(own_is h.units g hg).1, (own_is h.units g hg).2.1⟩
theorem RfAt.same (h : RfAt base w x) (hs : ∀ g, x.foot g → w'.heap[g]? = w.heap[g]?) : RfAt base w' x := ⟨h.ok, h.sure.same (fun g hg => hs g (.inl hg)), own_same h.units (fun g hg => hs g (.inr hg)), h.few⟩
theorem RfAt.later (h : RfAt base w x) (hb : Below w.heap.size w w') : RfAt base w' x := h.same (fun g hg => hb.block g (h.lt hg).2)
theorem RfAt.mono {base' : Nat} (h : RfAt base w x) (hb : base' ≤ base) : RfAt base' w x := ⟨h.ok, h.sure.mono hb, own_mono h.units hb, h.few⟩
theorem OwnR.lt (h : OwnR base w sp c rs) {g : Nat} (hg : footR sp rs g) : base ≤ g ∧ g < w.heap.size := by
  rcases hg with hg | ⟨x, hx, hg⟩
  · exact ⟨(own_is h.row g hg).1, (own_is h.row g hg).2.1⟩
  · exact (h.dat x hx).lt hg
theorem OwnR.same (h : OwnR base w sp c rs) (hs : ∀ g, footR sp rs g → w'.heap[g]? = w.heap[g]?) : OwnR base w' sp c rs := ⟨own_same h.row (fun g hg => hs g (.inl hg)), fun x hx => (h.dat x hx).same (fun g hg => hs g (.inr ⟨x, hx, hg⟩))⟩
theorem OwnR.later (h : OwnR base w sp c rs) (hb : Below w.heap.size w w') : OwnR base w' sp c rs := h.same (fun g hg => hb.block g (h.lt hg).2)
theorem rfRow_length (x : Rf) : (rfRow x).length = 4 := rfl
theorem OwnR.cells (h : OwnR base w sp c rs) (i : Nat) (hi : i < rs.length) : ∃ g, sp = some ⟨g, 0, none⟩ ∧ w.cell? ⟨g, i * 4, none⟩ = some (.string (str rs[i].1)) ∧ w.cell? ⟨g, i * 4 + 1, none⟩ = some (.bool rs[i].2.s.la) ∧ w.cell? ⟨g, i * 4 + 2, none⟩ = some (.slice rs[i].2.yp rs[i].2.s.y.length rs[i].2.yc) ∧ w.cell? ⟨g, i * 4 + 3, none⟩ = some (.slice rs[i].2.up rs[i].2.s.us.length rs[i].2.uc) := by
  obtain ⟨g, hg, hc⟩ := own_cell rfRow rfRow_length rfl h.row i hi
  exact ⟨g, hg, hc 0 _ rfl, hc 1 _ rfl, hc 2 _ rfl, hc 3 _ rfl⟩
theorem OwnU.cells {us : List Un} (h : OwnU base w sp c us) (i : Nat) (hi : i < us.length) : ∃ g, sp = some ⟨g, 0, none⟩ ∧ w.cell? ⟨g, i * 3, none⟩ = some (.bool us[i].1) ∧ w.cell? ⟨g, i * 3 + 1, none⟩ = some (.int .i64 (us[i].2.1 : Int)) ∧ w.cell? ⟨g, i * 3 + 2, none⟩ = some (.int .u8 (us[i].2.2 : Int)) := by
  obtain ⟨g, hg, hc⟩ := own_cell uRow (fun _ => rfl) rfl h i hi
  exact ⟨g, hg, hc 0 _ rfl, hc 1 _ rfl, hc 2 _ rfl⟩
end
set_option maxRecDepth 20000 in
set_option maxHeartbeats 40000000 in
/-- The first k units made. -/
theorem made_calls (base : Nat) (w : World) (x : Rf) (h : RfAt base w x) (k : Int) :
    Calls Tryz.prog 80 #[rfVal x, .int .i64 k] w fun e w' => ∃ sp n c, e = .returned (.slice sp n c) ∧ (madeU x.2.s.us x.2.s.y k.toNat).length = n ∧ Bx w.heap.size w' sp c (madeU x.2.s.us x.2.s.y k.toNat) ∧ Below w.heap.size w w' := by
  obtain ⟨nm, s, yp, yc, up, uc⟩ := x
  show Calls _ _ _ _ fun e w' => ∃ sp n c, e = .returned (.slice sp n c) ∧ (madeU s.us s.y k.toNat).length = n ∧ Bx w.heap.size w' sp c (madeU s.us s.y k.toNat) ∧ Below w.heap.size w w'
  have b1 : Below w.heap.size w (w.alloc (rfObj (nm, ⟨s, yp, yc, up, uc⟩))) := (Below.refl _ _).alloc (Nat.le_refl _) _
  have B1 := hide b1
  have X1 := hide (heap_new w (rfObj (nm, ⟨s, yp, yc, up, uc⟩)))
  have hs1 : (w.alloc (rfObj (nm, ⟨s, yp, yc, up, uc⟩))).heap.size = w.heap.size + 1 := by simp
  have A2 := hide (show Below (w.alloc (rfObj (nm, ⟨s, yp, yc, up, uc⟩))).heap.size (w.alloc (rfObj (nm, ⟨s, yp, yc, up, uc⟩))) ((w.alloc (rfObj (nm, ⟨s, yp, yc, up, uc⟩))).alloc (.cells #[] 5)) from (Below.refl _ _).alloc (Nat.le_refl _) _)
  have O2 := hide ((OwnB.empty (w.alloc (rfObj (nm, ⟨s, yp, yc, up, uc⟩))) (w.alloc (rfObj (nm, ⟨s, yp, yc, up, uc⟩))).heap.size (Nat.le_refl _)).toBx)
  have HY := hide (((h.sure.later b1).later (unhide A2)).bytes)
  have HZ := hide h.sure.nil0
  have h8 := h.ok.y8
  have H := hide h
  have hun := h.few
  have XC := hide (show ∀ W : World, Below (w.alloc (rfObj (nm, ⟨s, yp, yc, up, uc⟩))).heap.size (w.alloc (rfObj (nm, ⟨s, yp, yc, up, uc⟩))) W → W.cell? ⟨w.heap.size, 3, none⟩ = some (.slice up s.us.length uc) ∧ W.cell? ⟨w.heap.size, 2, none⟩ = some (.slice yp s.y.length yc) from fun W b => by
    rw [Below.cell b (p := ⟨w.heap.size, 3, none⟩) (by simp), Below.cell b (p := ⟨w.heap.size, 2, none⟩) (by simp)]
    exact ⟨fcell (unhide X1) 3 _ rfl, fcell (unhide X1) 2 _ rfl⟩)
  obtain ⟨_, c2⟩ := unhide XC _ (unhide A2)
  unfold rfVal
  rw [hs1] at O2
  unfold rfObj at B1 X1 A2 O2 HY XC c2
  clear h b1 hs1
  generalize hny : s.y.length = ny at *
  generalize hnu : s.us.length = nu at *
  have HNY := hide hny
  have HNU := hide hnu
  clear hny hnu
  go_enter Tryz.func80, Tryz.ntmps80
  go_wp2_with (at_builtin; refine wpList_appendBx rfl (.tmp 8) (.tmp 10) rfl (w.heap.size + 1) (some ⟨w.heap.size + 1, 0, none⟩) 0 0 [] rfl rfl (by exact unhide O2) yp ny yc rfl s.y (unhide HNY) (by exact unhide HY) (unhide HZ) (by simp; omega) (by simp) ?_; intro sp3 n3 c3 W3 hn3 hX3 hG3; refine unhide ?_)
  refine hide ?_
  rw [List.nil_append] at hn3 hX3
  have hsz : (w.alloc (.cells #[.string (str nm), .bool s.la, .slice yp ny yc, .slice up nu uc] 120)).heap.size = w.heap.size + 1 := by simp
  rw [hsz] at A2 XC
  generalize w.alloc (.cells #[.string (str nm), .bool s.la, .slice yp ny yc, .slice up nu uc] 120) = V1 at *
  have B3 := hide (show Below (w.heap.size + 1) V1 W3 from (unhide A2).grown hG3.grown (by have := (unhide A2).size; omega) (fun g hg => by simp [blk] at hg; omega))
  have X3 := hide hX3
  clear hX3 hG3 O2 HY X1 c2 A2
  go_wp2_with fail
  go_loopw [5, 6] (fun v i wr => ∃ (j n : Nat) (sp : Option Addr) (c : Nat), j ≤ nu ∧ j ≤ k.toNat ∧ v = .slice sp n c ∧ i = .int .i64 (j : Int) ∧ Hid ((madeU s.us s.y j).length = n) ∧ Hid (Bx (w.heap.size + 1) wr sp c (madeU s.us s.y j)) ∧ Hid (Below (w.heap.size + 1) V1 wr)) (fun _ i _ => nu - (intOf i).toNat)
  case atStart => exact ⟨0, n3, sp3, c3, by omega, by omega, rfl, rfl, by rw [madeU_zero]; exact hn3, X3, B3⟩
  case round =>
    obtain ⟨j, n, sp, c, hj, hjk, rfl, rfl, HL, HX, HB⟩ := hrel
    obtain ⟨e3, _⟩ := unhide XC wr (unhide HB)
    have BW := hide ((unhide B1).trans ((unhide HB).mono (by omega)))
    by_cases hcd : j < nu ∧ (j : Int) < k
    · obtain ⟨h1, h2⟩ := hcd
      have y1 : (j : Int) < (nu : Int) := by omega
      have y0 : (0 : Int) ≤ (j : Int) := by omega
      have hju : j < s.us.length := by rw [unhide HNU]; exact h1
      obtain ⟨ug, hug, p0, p1, p2⟩ := OwnU.cells ((unhide H).later (unhide BW)).units j hju
      simp only at hug
      subst hug
      simp only at p0 p1 p2
      have n8 : n ≤ 262144 := by rw [← unhide HL]; exact (unhide H).ok.len j
      have MS := hide (madeU_succ s.us s.y j hju)
      have CU := hide ((unhide H).ok.cut j hju)
      have hy := (unhide H).ok.byte j hju
      generalize s.us[j] = u at *
      obtain ⟨cut, z, cc⟩ := u
      simp only at p0 p1 p2 hy
      have AU := hide (show Below wr.heap.size wr (wr.alloc (.cells #[.bool cut, .int .i64 (z : Int), .int .u8 (cc : Int)] 131)) from (Below.refl _ _).alloc (Nat.le_refl _) _)
      have XU := hide ((unhide HX).later (unhide AU))
      have BU := hide ((unhide HB).trans ((unhide AU).mono (by have := (unhide HB).size; omega)))
      cases cut with
      | true =>
        have hzl : z ≤ n := by rw [← unhide HL]; exact unhide CU rfl
        have hs8 := run_slice_h8 sp n c z (Nat.le_trans hzl (by have := (unhide HX).cap.1; rw [unhide HL] at this; exact this))
        rw [(unhide HX).slp0] at hs8
        have M2 := hide (show madeU s.us s.y (j + 1) = (madeU s.us s.y j).take z by rw [unhide MS]; rfl)
        have X2 := hide (show Bx (w.heap.size + 1) (wr.alloc (.cells #[.bool true, .int .i64 (z : Int), .int .u8 (cc : Int)] 131)) sp c (madeU s.us s.y (j + 1)) by
          rw [unhide M2]
          have hcap := (unhide XU).cap.1
          exact (unhide XU).cut z c (by rw [unhide HL]; exact hzl) (by rw [unhide HL] at hcap; omega) (Nat.le_refl _))
        have L2 := hide (show (madeU s.us s.y (j + 1)).length = z by rw [unhide M2, List.length_take, unhide HL]; omega)
        go_wp2
        exact ⟨⟨j + 1, z, sp, c, by omega, by omega, rfl, by go_num, unhide L2, unhide X2, unhide BU⟩, by simp [intOf]; omega⟩
      | false =>
        by_cases hin : z < n
        · have hin2 : (z : Int) < (n : Int) := by omega
          have hz0 : (0 : Int) ≤ (z : Int) := by omega
          obtain ⟨g, rfl, hbg, q0, q1, q2, q3⟩ := (unhide XU).set z (by rw [unhide HL]; exact hin) cc hy
          have M2 := hide (show madeU s.us s.y (j + 1) = (madeU s.us s.y j).set z cc by
            rw [unhide MS]; simp only [stepU, Bool.false_eq_true, if_false]; rw [if_pos (by rw [unhide HL]; exact hin)])
          rw [← unhide M2] at q2
          have X2 := hide q2
          have L2 := hide (show (madeU s.us s.y (j + 1)).length = n by rw [unhide M2, List.length_set]; exact unhide HL)
          have B2 := hide ((unhide BU).grown q3 (by have := (unhide BU).size; have := (unhide B1).size; omega) (fun g' hg' => by have := Option.some.inj hg'; omega))
          clear q2 q3
          go_wp2
          exact ⟨⟨j + 1, n, some ⟨g, 0, none⟩, c, by omega, by omega, rfl, by go_num, unhide L2, unhide X2, unhide B2⟩, by simp [intOf]; omega⟩
        · have hin2 : ¬ (z : Int) < (n : Int) := by omega
          have M2 := hide (show madeU s.us s.y (j + 1) = madeU s.us s.y j ++ [cc] by
            rw [unhide MS]; simp only [stepU, Bool.false_eq_true, if_false]; rw [if_neg (by rw [unhide HL]; exact hin)])
          have hsU : (wr.alloc (.cells #[.bool false, .int .i64 (z : Int), .int .u8 (cc : Int)] 131)).heap.size = wr.heap.size + 1 := by simp
          have AV := hide (show Below (wr.alloc (.cells #[.bool false, .int .i64 (z : Int), .int .u8 (cc : Int)] 131)).heap.size (wr.alloc (.cells #[.bool false, .int .i64 (z : Int), .int .u8 (cc : Int)] 131)) ((wr.alloc (.cells #[.bool false, .int .i64 (z : Int), .int .u8 (cc : Int)] 131)).alloc (.cells #[.int .u8 (cc : Int)] 5)) from (Below.refl _ _).alloc (Nat.le_refl _) _)
          have YV := hide (lit_bytes (wr.alloc (.cells #[.bool false, .int .i64 (z : Int), .int .u8 (cc : Int)] 131)) [cc] (0, 0) (by simpa using hy))
          rw [hsU] at YV
          have XV := hide ((unhide XU).later (unhide AV))
          have BV := hide ((unhide BU).trans ((unhide AV).mono (by have := (unhide BU).size; have := (unhide HB).size; omega)))
          have hV1 : w.heap.size + 1 ≤ V1.heap.size := by omega
          go_wp2_with (at_builtin; refine wpList_appendBx rfl (.tmp 29) (.tmp 32) rfl (w.heap.size + 1) sp n c (madeU s.us s.y j) rfl (unhide HL) (by exact unhide XV) (some ⟨wr.heap.size + 1, 0, none⟩) 1 1 rfl [cc] rfl (by exact unhide YV) (by simp) (by rw [unhide HL]; omega) (by exact Nat.le_trans hV1 (unhide BV).size) ?_; intro sp7 n7 c7 V7 hn7 hX7 hG7; refine unhide ?_)
          refine hide ?_
          rw [← unhide M2] at hn7 hX7
          have X7 := hide hX7
          have B7 := hide (show Below (w.heap.size + 1) V1 V7 from (unhide BV).grown hG7.grown (by have := (unhide BV).size; omega) (fun g' hg' => ((unhide HX).isT g' hg').1))
          clear hX7 hG7
          go_wp2
          exact ⟨⟨j + 1, n7, sp7, c7, by omega, by omega, rfl, by go_num, unhide hn7, unhide X7, unhide B7⟩, by simp [intOf]; omega⟩
    · have EQ := hide (show madeU s.us s.y j = madeU s.us s.y k.toNat by
        by_cases h1 : j < nu
        · rw [show j = k.toNat by omega]
        · rw [madeU_all _ _ _ (show s.us.length ≤ k.toNat by rw [unhide HNU]; omega)]
          rw [madeU_all _ _ j (by rw [unhide HNU]; omega)])
      rcases (show ¬ j < nu ∨ (j < nu ∧ ¬ (j : Int) < k) by omega) with q | ⟨q, q'⟩
      · have y1 : ¬ (j : Int) < (nu : Int) := by omega
        go_wp2
        go_ret
        exact ⟨sp, n, c, rfl, by rw [← unhide EQ]; exact unhide HL, by rw [← unhide EQ]; exact (unhide HX).mono (by omega), unhide BW⟩
      · have y1 : (j : Int) < (nu : Int) := by omega
        go_wp2
        go_ret
        exact ⟨sp, n, c, rfl, by rw [← unhide EQ]; exact unhide HL, by rw [← unhide EQ]; exact (unhide HX).mono (by omega), unhide BW⟩
theorem now_calls (base : Nat) (w : World) (x : Rf) (h : RfAt base w x) :
    Calls Tryz.prog 85 #[rfVal x] w fun e w' => ∃ sp n c, e = .returned (.slice sp n c) ∧ x.2.s.now.length = n ∧ n ≤ 262144 ∧ Bx w.heap.size w' sp c x.2.s.now ∧ Below w.heap.size w w' := by
  have b1 : Below w.heap.size w (w.alloc (rfObj x)) := (Below.refl _ _).alloc (Nat.le_refl _) _
  have B1 := hide b1
  have MC := hide (made_calls base (w.alloc (rfObj x)) x (h.later b1) (x.2.s.us.length : Int))
  have c0 := fcell (heap_new w (rfObj x)) 0 _ rfl
  have c1 := fcell (heap_new w (rfObj x)) 1 _ rfl
  have c2 := fcell (heap_new w (rfObj x)) 2 _ rfl
  have c3 := fcell (heap_new w (rfObj x)) 3 _ rfl
  have HO := hide h.ok
  unfold rfVal at *
  unfold rfObj at *
  clear h b1
  generalize hnu : x.2.s.us.length = nu at *
  have HNU := hide hnu
  clear hnu
  go_enter Tryz.func85, Tryz.ntmps85
  go_wp2_with (go_at_call 80; refine (unhide MC).mono ?_; rintro e W ⟨sp, n, c, rfl, hn, hX, hb⟩; have X := hide hX; have N := hide hn; have B := hide hb; clear hX hn hb)
  go_ret
  have e1 : madeU x.2.s.us x.2.s.y ((nu : Int)).toNat = x.2.s.now := by
    rw [Int.toNat_natCast, ← unhide HNU]
    exact (unhide HO).now
  have hN := unhide N
  have hX := unhide X
  have h8 := (unhide HO).len ((nu : Int)).toNat
  rw [e1] at hN hX h8
  exact ⟨sp, n, c, rfl, hN, by omega, hX.mono (unhide B1).size, (unhide B1).trans ((unhide B).mono (unhide B1).size)⟩
end Go.Proofs.YtagncghpfdjkmaaGreatDoor
end
