/- The contract of frame.All: what all frames from the beginning on hold, and the place behind them. -/
import Derived.Test.YtagncghpfdjkmaaGreatDoorB01
import Derived.Test.YtagncghpfdjkmaaGreatDoorB15
import Derived.Test.YtagncghpfdjkmaaGreatDoorB13
import Derived.Test.YtagncghpfdjkmaaGreatDoorB14
import Derived.Test.YtagncghpfdjkmaaGreatDoorB11
import Derived.Test.YtagncghpfdjkmaaGreatDoorB12
section
namespace Go.Proofs.YtagncghpfdjkmaaGreatDoor
open Go.ChangeShapes Go.WideShapes Go.ChangeAt Go.RowKit

/-- Rows of bytes in memory of the call's own. -/
structure OwnS (base : Nat) (w : World) (v : Value) (hs : List (List Nat)) : Prop where
  ex : ∃ cs : List Value, w.ownsRow base 27 1 v hs.length cs ∧ ∀ i, i < hs.length → ∃ p c, cs[i]? = some (.slice p (hs.getD i []).length c) ∧ OwnB base w p c (hs.getD i [])
  lt : ∀ h ∈ hs, ∀ c ∈ h, c < 256

theorem OwnS.ofNil (base : Nat) (w : World) : OwnS base w (.slice none 0 0) [] :=
  ⟨⟨[], w.ownsRow_nil base 27 1, by simp⟩, by simp⟩
theorem OwnS.form {base : Nat} {w : World} {v : Value} {hs : List (List Nat)} (h : OwnS base w v hs) : ∃ sp c, v = .slice sp hs.length c := by
  obtain ⟨cs, ho, _⟩ := h.ex
  rcases ho.2 with ⟨hv, h0⟩ | ⟨g, cap, cur, hv, _⟩
  · exact ⟨none, 0, by rw [hv, h0]⟩
  · exact ⟨_, _, hv⟩
theorem OwnS.later {base : Nat} {w w' : World} {v : Value} {hs : List (List Nat)} (h : OwnS base w v hs) (hb : Below w.heap.size w w') : OwnS base w' v hs := by
  obtain ⟨cs, ho, hc⟩ := h.ex
  refine ⟨⟨cs, ⟨ho.1, ?_⟩, fun i hi => ?_⟩, h.lt⟩
  · rcases ho.2 with hv | ⟨g, cap, cur, hv, hbg, hg, r⟩
    · exact .inl hv
    · exact .inr ⟨g, cap, cur, hv, hbg, (hb.block g (Array.getElem?_eq_some_iff.1 hg).1).trans hg, r⟩
  · obtain ⟨p, c, h1, h2⟩ := hc i hi
    exact ⟨p, c, h1, h2.later hb⟩
theorem OwnS.mono {base base' : Nat} {w : World} {v : Value} {hs : List (List Nat)} (h : OwnS base w v hs) (hb : base' ≤ base) : OwnS base' w v hs := by
  obtain ⟨cs, ho, hc⟩ := h.ex
  refine ⟨⟨cs, ⟨ho.1, ?_⟩, fun i hi => ?_⟩, h.lt⟩
  · rcases ho.2 with hv | ⟨g, cap, cur, hv, hbg, r⟩
    · exact .inl hv
    · exact .inr ⟨g, cap, cur, hv, by omega, r⟩
  · obtain ⟨p, c, h1, h2⟩ := hc i hi
    exact ⟨p, c, h1, h2.mono hb⟩
theorem infoS : (Tryz.prog.info? 27).map (fun i => (i.zero, i.size, i.bytes)) = some (some (.slice none 0 0), 1, 24) := by kernel_rfl

theorem wpList_appendS {w : World} {ops : Array Oper} {rest : List Oper} {o : Oper} {a : Act} {Q : Exit → Act → World → Prop} (hgd : o.guard = none) (s x : Operand)
    (ho : o.op = .call { callee := .builtin .append, args := #[s, x], argTypes := #[70, 70] })
    (base : Nat) (v : Value) (hs : List (List Nat)) (he : a.eval s = v) (hown : OwnS base w v hs)
    (B : Nat) (hx : a.eval x = .slice (some ⟨B, 0, none⟩) 1 1) (p : Option Addr) (pc : Nat) (h : List Nat) (hB : w.cell? ⟨B, 0, none⟩ = some (.slice p h.length pc))
    (hg : OwnB base w p pc h) (hsz : hs.length ≤ 1099511627776) (hbase : base ≤ w.heap.size)
    (K : ∀ v' w', OwnS base w' v' (hs ++ [h]) → Below base w w' → wpList Tryz.prog ops Q rest (a.put o.dst v') w') :
    wpList Tryz.prog ops Q (o :: rest) a w := by
  obtain ⟨i0, hi, hz0, hz1, hz2⟩ := info_parts infoS
  obtain ⟨cs, ho1, hc⟩ := hown.ex
  refine wpList_append_own (w := w) hgd s x 70 ho base 27 i0 (.slice none 0 0) 1 24 Tryz.underlying70 hi hz0 hz1 hz2 rfl (by omega) v hs.length cs he ho1 ⟨B, 0, none⟩ 1 1 [.slice p h.length pc] hx rfl ?_ ?_ ?_ ?_ hbase ?_
  · intro j u hu
    cases j with
    | zero => simp only [List.getElem?_cons_zero, Option.some.injEq] at hu; subst hu; rw [Addr.add_lit]; exact hB
    | succ j => simp at hu
  · intro u hu
    simp only [List.mem_cons, List.not_mem_nil, or_false] at hu
    subst hu
    rfl
  · simp only [maxLen]; omega
  · omega
  · intro v' w' h1 h2 _
    have hbel : Below base w w' := (Below.refl base w).grown h2 hbase (fun j hj => (ho1.lt j hj).1)
    refine K v' w' ⟨⟨cs ++ [.slice p h.length pc], by rw [List.length_append]; exact h1, fun i hi => ?_⟩, ?_⟩ hbel
    · have hcl : cs.length = hs.length := by have := ho1.1; omega
      have hkeep : ∀ (p : Option Addr) (c : Nat) (x : List Nat), OwnB base w p c x → OwnB base w' p c x := by
        intro p c x hx
        refine ⟨⟨hx.owns.1, ?_⟩, hx.lt⟩
        rcases hx.owns.2 with hv | ⟨g', cap, cur, hv, hbg, hg', r⟩
        · exact .inl hv
        · refine .inr ⟨g', cap, cur, hv, hbg, ?_, r⟩
          rw [h2.block g' (Array.getElem?_eq_some_iff.1 hg').1 ?_]
          · exact hg'
          · intro e
            rcases ho1.2 with ⟨hv, _⟩ | ⟨gg, cap, cc, hv, _, hgg, _⟩
            · rw [hv] at e; simp [Value.ownBlock] at e
            · rw [hv] at e
              simp only [Value.ownBlock, Option.some.injEq] at e
              subst e
              rw [hg'] at hgg
              simp only [Option.some.injEq, Obj.cells.injEq] at hgg
              exact absurd hgg.2.1 (by decide)
      rw [List.length_append] at hi
      by_cases hlt' : i < hs.length
      · obtain ⟨p', c', r1, r2⟩ := hc i hlt'
        have e1 : (hs ++ [h]).getD i [] = hs.getD i [] := by rw [List.getD_eq_getElem?_getD, List.getElem?_append_left hlt', List.getD_eq_getElem?_getD]
        rw [e1, List.getElem?_append_left (by omega)]
        exact ⟨p', c', r1, hkeep p' c' _ r2⟩
      · have hi' : i = hs.length := by simp at hi; omega
        have e1 : (hs ++ [h]).getD i [] = h := by rw [List.getD_eq_getElem?_getD, hi', List.getElem?_append_right (Nat.le_refl _), Nat.sub_self]; rfl
        rw [e1, hi', ← hcl, List.getElem?_append_right (Nat.le_refl _), Nat.sub_self]
        exact ⟨p, pc, rfl, hkeep p pc h hg⟩
    · intro x hx
      rcases List.mem_append.1 hx with h3 | h3
      · exact hown.lt x h3
      · simp only [List.mem_cons, List.not_mem_nil, or_false] at h3; subst h3; exact hg.lt

/-- The frames from a place to another one. -/
def Steps (l : List Nat) : Nat → List (List Nat) → Nat → Prop
  | k0, [], k => k0 = k
  | k0, h :: r, k => nextE l k0 = 0 ∧ nextH l k0 = h ∧ Steps l (k0 + 8 + h.length) r k
/-- A frame that is there ends within the bytes. -/
theorem nextE_zero {l : List Nat} {k : Nat} (h : nextE l k = 0) : 8 ≤ l.length - k ∧ (nextH l k).length = num4 (l.drop k) ∧ k + 8 + (nextH l k).length ≤ l.length := by
  unfold nextE at h
  split at h
  · omega
  · split at h
    · omega
    · split at h
      · omega
      · next h1 _ h3 =>
        refine ⟨by omega, ?_, ?_⟩
        · simp only [nextH, List.length_take, List.length_drop]; omega
        · simp only [nextH, List.length_take, List.length_drop]; omega

theorem nextH_lt {l : List Nat} (h : ∀ c ∈ l, c < 256) (k : Nat) : ∀ c ∈ nextH l k, c < 256 := fun c hc => h c (List.mem_of_mem_drop (List.mem_of_mem_take hc))

/-- Next at any place that may be. -/
theorem next_any (a : Option Addr) (c : Nat) (l : List Nat) (k : Nat) (w : World) (hl : l.length ≤ maxLen) (hc : l.length ≤ c) (hk : k ≤ l.length) (hb : BytesAt w a l) :
    Calls Tryz.prog 58 #[.slice a l.length c, .int .i64 (k : Int)] w fun e w' => Below w.heap.size w w' ∧
      ((0 < nextE l k ∧ e = .returned (.tuple #[.slice none 0 0, .int .i64 0, .int .i64 (nextE l k : Nat)])) ∨
       (nextE l k = 0 ∧ ∃ g, e = .returned (.tuple #[.slice (some ⟨g, 0, none⟩) (nextH l k).length (nextH l k).length, .int .i64 ((k + 8 + (nextH l k).length : Nat) : Int), .int .i64 0]) ∧ w.heap.size ≤ g ∧ w'.heap[g]? = some (.cells ((nextH l k).map byteV).toArray 5 (0, 0)))) := by
  by_cases h8 : l.length - k < 8
  · refine (next_short a c l k w hl hk h8).mono ?_
    rintro e w' ⟨rfl, rfl⟩
    have e3 : nextE l k = 3 := by unfold nextE; rw [if_pos h8]
    exact ⟨Below.refl _ _, .inl ⟨by omega, by rw [e3]; rfl⟩⟩
  · exact next_calls a c l k w hl hc hk h8 hb

end Go.Proofs.YtagncghpfdjkmaaGreatDoor
end
/- wire.TakeNumber at a place that may be. -/
section
namespace Go.Proofs.YtagncghpfdjkmaaGreatDoor
open Go.ChangeShapes Go.WideShapes Go.ChangeAt Go.RowKit
set_option linter.unusedVariables false

theorem takeE_leb {l : List Nat} {k n k2 : Nat} (h : takeE l k = .ok (n, k2)) (hl : ∀ c ∈ l, c < 256) : k2 ≤ l.length ∧ n ≤ 1099511627776 := by
  obtain ⟨_, _, h3, h4⟩ := takeE_back hl h
  exact ⟨h3, h4⟩
theorem takeNum_ok (a : Option Addr) (m c : Nat) (l : List Nat) (k n k2 : Nat) (w : World) (hm : l.length = m) (hl : m ≤ maxLen) (hk : k ≤ l.length) (hb : BytesAt w a l) (ht : takeE l k = .ok (n, k2)) :
    Calls Tryz.prog 124 #[.slice a m c, .int .i64 (k : Int)] w fun e w' => e = .returned (.tuple #[.int .i64 (n : Int), .int .i64 (k2 : Int), .int .i64 0]) ∧ Below w.heap.size w w' := by
  unfold takeE at ht
  split at ht
  · rename_i h0
    simp only [Except.ok.injEq, Prod.mk.injEq] at ht
    refine take_ok a m c l k n k2 (k : Int) w hm rfl (by omega) hk hb ?_
    rw [← ht.1, ← ht.2, ← h0]
  · cases ht
theorem takeNum_bad (a : Option Addr) (m c : Nat) (l : List Nat) (k x : Nat) (w : World) (hm : l.length = m) (hl : m ≤ maxLen) (hk : k ≤ l.length) (hb : BytesAt w a l) (ht : takeE l k = .error x) :
    Calls Tryz.prog 124 #[.slice a m c, .int .i64 (k : Int)] w fun e w' => e = .returned (.tuple #[.int .i64 0, .int .i64 0, .int .i64 (x : Int)]) ∧ Below w.heap.size w w' := by
  have hx := takeE_pos ht
  unfold takeE at ht
  split at ht
  · cases ht
  · simp only [Except.error.injEq] at ht
    exact take_bad a m c l k x (k : Int) w hm rfl (by omega) hk hb ht hx
end Go.Proofs.YtagncghpfdjkmaaGreatDoor
end
/- Snapshots, plainly: what their bytes are, and what bytes say. -/
section
namespace Go.Proofs.YtagncghpfdjkmaaGreatDoor
open Go.ChangeShapes Go.WideShapes Go.ChangeAt Go.RowKit
set_option linter.unusedVariables false

/-- A snapshot: index, term, voters, learners, data. -/
structure Sn where
  i : Int
  t : Int
  v : List Int
  l : List Int
  d : List Nat
/-- What a snapshot's frame holds. -/
def inB (i t : Nat) (m d : List Nat) : List Nat := numB i ++ (numB t ++ (numB m.length ++ (m ++ (numB d.length ++ d))))
/-- The error of putting it (0: none), and its bytes. -/
def snE (s : Sn) : Nat := if (1 ≤ s.i ∧ s.i ≤ 1099511627776) ∧ (1 ≤ s.t ∧ s.t ≤ 1099511627776) ∧ rightM s.v s.l = true then (if 16384 < s.d.length then 6 else 0) else 2
def snI (s : Sn) : List Nat := inB s.i.toNat s.t.toNat (listB s.v ++ listB s.l) s.d
def snB (s : Sn) : List Nat := if snE s = 0 then frameB (snI s) else []
/-- What a frame's bytes say. -/
def snG (h : List Nat) : Except Nat Sn := match takeE h 0 with
  | .error x => .error x
  | .ok (i, k1) => if i = 0 then .error 4 else match takeE h k1 with
    | .error x => .error x
    | .ok (t, k2) => if t = 0 then .error 4 else match takeE h k2 with
      | .error x => .error x
      | .ok (n, k3) => if h.length - k3 < n then .error 3 else match getE ((h.drop k3).take n) with
        | .error x => .error x
        | .ok (v, l) => match takeE h (k3 + n) with
          | .error x => .error x
          | .ok (z, k4) => if 16384 < z then .error 6 else if h.length - k4 < z then .error 3 else if k4 + z < h.length then .error 4 else .ok ⟨i, t, v, l, (h.drop k4).take z⟩
def snL (l : List Nat) : Except Nat Sn := if nextE l 0 ≠ 0 then .error (nextE l 0) else if 8 + (nextH l 0).length < l.length then .error 4 else snG (nextH l 0)
/-- The program's reader: a place, and the first error. -/
def failR (e x : Nat) : Nat := if e = 0 then x else e
def numR (h : List Nat) (k e : Nat) : Nat × Nat × Nat := if e ≠ 0 then (0, k, e) else match takeE h k with
  | .ok (n, k2) => (n, k2, 0)
  | .error x => (0, k, x)
def posR (h : List Nat) (k e : Nat) : Nat × Nat × Nat := ((numR h k e).1, (numR h k e).2.1, if (numR h k e).1 = 0 then failR (numR h k e).2.2 4 else (numR h k e).2.2)
def cutE (h : List Nat) (k e n : Nat) : Nat := if h.length - k < n then failR e 3 else e
def cutR (h : List Nat) (k e n : Nat) : List Nat × Nat × Nat := if cutE h k e n ≠ 0 then ([], k, cutE h k e n) else ((h.drop k).take n, k + n, 0)
def memV (r : Except Nat (List Int × List Int)) : List Int × List Int := match r with
  | .ok x => x
  | .error _ => ([], [])
def memX (r : Except Nat (List Int × List Int)) : Nat := match r with
  | .ok _ => 0
  | .error x => x
def memR (h : List Nat) (k e : Nat) : (List Int × List Int) × Nat × Nat :=
  let a := numR h k e
  let b := cutR h a.2.1 a.2.2 a.1
  (memV (getE b.1), b.2.1, failR b.2.2 (memX (getE b.1)))
def datR (h : List Nat) (k e : Nat) : List Nat × Nat × Nat :=
  let a := numR h k e
  cutR h a.2.1 (if 16384 < a.1 then failR a.2.2 6 else a.2.2) a.1
def endR (h : List Nat) (k e : Nat) : Nat := if k < h.length then failR e 4 else e
theorem numR_ok {h : List Nat} {k n k2 : Nat} (ht : takeE h k = .ok (n, k2)) : numR h k 0 = (n, k2, 0) := by simp [numR, ht]
theorem numR_bad {h : List Nat} {k x : Nat} (ht : takeE h k = .error x) : numR h k 0 = (0, k, x) := by simp [numR, ht]
theorem numR_err {h : List Nat} {k e : Nat} (he : e ≠ 0) : numR h k e = (0, k, e) := by simp [numR, he]
theorem failR_err {e x : Nat} (he : e ≠ 0) : failR e x = e := by simp [failR, he]
theorem posR_err {h : List Nat} {k e : Nat} (he : e ≠ 0) : posR h k e = (0, k, e) := by simp [posR, numR_err he, failR_err he]
theorem cutR_err {h : List Nat} {k e n : Nat} (he : e ≠ 0) : cutR h k e n = ([], k, e) := by
  have : cutE h k e n = e := by unfold cutE; rw [failR_err he]; simp
  simp [cutR, this, he]
theorem memR_err {h : List Nat} {k e : Nat} (he : e ≠ 0) : (memR h k e).2 = (k, e) := by
  unfold memR
  simp only [numR_err he, cutR_err he, failR_err he]
theorem datR_err {h : List Nat} {k e : Nat} (he : e ≠ 0) : datR h k e = ([], k, e) := by
  unfold datR
  simp only [numR_err he]
  rw [if_neg (by omega), cutR_err he]
theorem endR_err {h : List Nat} {k e : Nat} (he : e ≠ 0) : endR h k e = e := by
  unfold endR
  rw [failR_err he]
  simp
/-- All that it reads of what a frame holds. -/
def allE (h : List Nat) : Nat :=
  let a := posR h 0 0
  let b := posR h a.2.1 a.2.2
  let c := memR h b.2.1 b.2.2
  let d := datR h c.2.1 c.2.2
  endR h d.2.1 d.2.2
def allV (h : List Nat) : Sn :=
  let a := posR h 0 0
  let b := posR h a.2.1 a.2.2
  let c := memR h b.2.1 b.2.2
  let d := datR h c.2.1 c.2.2
  ⟨a.1, b.1, c.1.1, c.1.2, d.1⟩
theorem numsE_pos {l : List Nat} : ∀ {n k x : Nat}, numsE l n k = .error x → x ≠ 0
  | 0, k, x, h => by cases h
  | n + 1, k, x, h => by
    unfold numsE at h
    cases h1 : takeE l k with
    | error y =>
      rw [h1] at h
      cases h
      exact takeE_pos h1
    | ok q =>
      obtain ⟨y, k2⟩ := q
      rw [h1] at h
      dsimp only at h
      cases h2 : numsE l n k2 with
      | error y =>
        rw [h2] at h
        cases h
        exact numsE_pos h2
      | ok q =>
        rw [h2] at h
        cases h
theorem listE_pos {l : List Nat} {k x : Nat} (h : listE l k = .error x) : x ≠ 0 := by
  unfold listE at h
  cases h1 : takeE l k with
  | error y =>
    rw [h1] at h
    cases h
    exact takeE_pos h1
  | ok q =>
    obtain ⟨y, k2⟩ := q
    rw [h1] at h
    dsimp only at h
    split at h
    · cases h; decide
    · exact numsE_pos h
theorem getE_pos {l : List Nat} {x : Nat} (h : getE l = .error x) : x ≠ 0 := by
  unfold getE at h
  cases h1 : listE l 0 with
  | error y =>
    rw [h1] at h
    cases h
    exact listE_pos h1
  | ok q =>
    obtain ⟨v, k⟩ := q
    rw [h1] at h
    dsimp only at h
    cases h2 : listE l k with
    | error y =>
      rw [h2] at h
      cases h
      exact listE_pos h2
    | ok q =>
      obtain ⟨r, k2⟩ := q
      rw [h2] at h
      dsimp only at h
      split at h
      · split at h
        · cases h
        · cases h; decide
      · cases h; decide
/-- That is just what the bytes say. -/
theorem all_is (h : List Nat) : match snG h with
    | .ok s => allE h = 0 ∧ allV h = s
    | .error x => allE h = x ∧ x ≠ 0 := by
  unfold allE allV snG
  cases t1 : takeE h 0 with
  | error x =>
    have hx := takeE_pos t1
    have e1 : posR h 0 0 = (0, 0, x) := by simp [posR, numR_bad t1, failR_err hx]
    dsimp only
    rw [e1]
    dsimp only
    rw [posR_err hx]
    dsimp only
    rw [memR_err hx]
    dsimp only
    rw [datR_err hx]
    exact ⟨endR_err hx, hx⟩
  | ok q =>
    obtain ⟨i, k1⟩ := q
    dsimp only
    by_cases hi : i = 0
    · rw [if_pos hi]
      have hx : (4 : Nat) ≠ 0 := by decide
      have e1 : posR h 0 0 = (i, k1, 4) := by simp [posR, numR_ok t1, hi, failR]
      rw [e1]
      dsimp only
      rw [posR_err hx]
      dsimp only
      rw [memR_err hx]
      dsimp only
      rw [datR_err hx]
      exact ⟨endR_err hx, hx⟩
    · rw [if_neg hi]
      have e1 : posR h 0 0 = (i, k1, 0) := by simp [posR, numR_ok t1, hi]
      rw [e1]
      dsimp only
      cases t2 : takeE h k1 with
      | error x =>
        have hx := takeE_pos t2
        have e2 : posR h k1 0 = (0, k1, x) := by simp [posR, numR_bad t2, failR_err hx]
        dsimp only
        rw [e2]
        dsimp only
        rw [memR_err hx]
        dsimp only
        rw [datR_err hx]
        exact ⟨endR_err hx, hx⟩
      | ok q =>
        obtain ⟨t, k2⟩ := q
        dsimp only
        by_cases ht : t = 0
        · rw [if_pos ht]
          have hx : (4 : Nat) ≠ 0 := by decide
          have e2 : posR h k1 0 = (t, k2, 4) := by simp [posR, numR_ok t2, ht, failR]
          rw [e2]
          dsimp only
          rw [memR_err hx]
          dsimp only
          rw [datR_err hx]
          exact ⟨endR_err hx, hx⟩
        · rw [if_neg ht]
          have e2 : posR h k1 0 = (t, k2, 0) := by simp [posR, numR_ok t2, ht]
          rw [e2]
          dsimp only
          cases t3 : takeE h k2 with
          | error x =>
            have hx := takeE_pos t3
            have e3 : (memR h k2 0).2 = (k2, x) := by
              unfold memR
              simp only [numR_bad t3, cutR_err hx, failR_err hx]
            dsimp only
            rw [e3]
            dsimp only
            rw [datR_err hx]
            exact ⟨endR_err hx, hx⟩
          | ok q =>
            obtain ⟨n, k3⟩ := q
            dsimp only
            by_cases hn : h.length - k3 < n
            · rw [if_pos hn]
              have hx : (3 : Nat) ≠ 0 := by decide
              have e3 : (memR h k2 0).2 = (k3, 3) := by
                have hc : cutR h k3 0 n = ([], k3, 3) := by simp [cutR, cutE, hn, failR]
                unfold memR
                simp only [numR_ok t3, hc, failR_err hx]
              rw [e3]
              dsimp only
              rw [datR_err hx]
              exact ⟨endR_err hx, hx⟩
            · rw [if_neg hn]
              have hc : cutR h k3 0 n = ((h.drop k3).take n, k3 + n, 0) := by simp [cutR, cutE, hn]
              have e3 : memR h k2 0 = (memV (getE ((h.drop k3).take n)), k3 + n, memX (getE ((h.drop k3).take n))) := by
                unfold memR
                simp only [numR_ok t3, hc]
                rfl
              rw [e3]
              cases g : getE ((h.drop k3).take n) with
              | error x =>
                have hx := getE_pos g
                dsimp only [memX, memV]
                rw [datR_err hx]
                exact ⟨endR_err hx, hx⟩
              | ok q =>
                obtain ⟨v, l⟩ := q
                dsimp only [memX, memV]
                cases t4 : takeE h (k3 + n) with
                | error x =>
                  have hx := takeE_pos t4
                  have e4 : datR h (k3 + n) 0 = ([], k3 + n, x) := by
                    unfold datR
                    simp only [numR_bad t4]
                    rw [if_neg (by omega), cutR_err hx]
                  dsimp only
                  rw [e4]
                  exact ⟨endR_err hx, hx⟩
                | ok q =>
                  obtain ⟨z, k4⟩ := q
                  dsimp only
                  by_cases hz : 16384 < z
                  · rw [if_pos hz]
                    have hx : (6 : Nat) ≠ 0 := by decide
                    have e4 : datR h (k3 + n) 0 = ([], k4, 6) := by
                      unfold datR
                      simp only [numR_ok t4]
                      rw [if_pos hz]
                      exact cutR_err hx
                    rw [e4]
                    exact ⟨endR_err hx, hx⟩
                  · rw [if_neg hz]
                    by_cases hs : h.length - k4 < z
                    · rw [if_pos hs]
                      have hx : (3 : Nat) ≠ 0 := by decide
                      have e4 : datR h (k3 + n) 0 = ([], k4, 3) := by
                        unfold datR
                        simp only [numR_ok t4]
                        rw [if_neg hz]
                        simp [cutR, cutE, hs, failR]
                      rw [e4]
                      exact ⟨endR_err hx, hx⟩
                    · rw [if_neg hs]
                      have e4 : datR h (k3 + n) 0 = ((h.drop k4).take z, k4 + z, 0) := by
                        unfold datR
                        simp only [numR_ok t4]
                        rw [if_neg hz]
                        simp [cutR, cutE, hs]
                      rw [e4]
                      dsimp only
                      by_cases hb : k4 + z < h.length
                      · rw [if_pos hb]
                        exact ⟨by simp [endR, hb, failR], by decide⟩
                      · rw [if_neg hb]
                        exact ⟨by simp [endR, hb], rfl⟩
end Go.Proofs.YtagncghpfdjkmaaGreatDoor
end
/- The contracts of the document's answers of layer 2: Number, TakeNumber. -/
section
namespace Go.Proofs.YtagncghpfdjkmaaGreatDoor
open Go.ChangeShapes Go.WideShapes Go.ChangeAt Go.RowKit

/-- What TakeNumber answers. -/
def takeV (l : List Nat) (k : Nat) : Value :=
  if (takeN l k).1 = 0 then .tuple #[.int .i64 ((takeN l k).2.1 : Int), .int .i64 ((takeN l k).2.2 : Int), .int .i64 0] else .tuple #[.int .i64 0, .int .i64 0, .int .i64 ((takeN l k).1 : Int)]
set_option maxRecDepth 20000 in
set_option maxHeartbeats 1000000 in
theorem refTake_calls (a : Option Addr) (M c : Nat) (l : List Nat) (k : Nat) (kk : Int) (w : World) (hM : l.length = M) (hkk : kk = (k : Int)) (hl : l.length ≤ 140737488355328) (hk : k ≤ l.length) (hb : BytesAt w a l) :
    Calls Tryz.prog 64 #[.slice a M c, .int .i64 kk] w fun e w' => e = .returned (takeV l k) ∧ w' = w := by
  subst hM hkk
  have HB := hide hb
  clear hb
  have hk0 := hk
  go_enter Tryz.func64, Tryz.ntmps64
  go_wp2
  clear hk
  go_loop [7, 8, 9] (fun x u i => ∃ (m s : Nat), s ≤ 6 ∧ i = .int .i64 (s : Int) ∧ u = .int .i64 ((128 ^ s : Nat) : Int) ∧ x = .int .i64 (m : Int) ∧ m < 128 ^ s ∧ Hid (takeF l (6 - s) s m (k + s) = takeN l k)) (fun _ _ i => 6 - (intOf i).toNat)
  case atStart => exact ⟨0, 0, by omega, rfl, rfl, rfl, by decide, rfl⟩
  case round =>
    obtain ⟨m, s, hs, rfl, rfl, rfl, hm, heq⟩ := hrel
    by_cases hk : k + s < l.length
    · obtain ⟨b, off, rfl, hc⟩ := (unhide HB).cell (k + s) hk
      have hx := getD_lt (unhide HB).lt (k + s)
      generalize hxx : l.getD (k + s) 0 = x at *
      have HX := hide hxx
      clear hxx
      rcases (by omega : s = 0 ∨ s = 1 ∨ s = 2 ∨ s = 3 ∨ s = 4 ∨ s = 5 ∨ s = 6) with rfl | rfl | rfl | rfl | rfl | rfl | rfl
      · obtain ⟨n, hn⟩ : ∃ n, n = m + x % 128 * 128 ^ 0 := ⟨_, rfl⟩
        have hA : (m : Int) + ((x : Int) % 128) = (n : Int) := by rw [hn]; simp only [Nat.reducePow]; omega
        have hm' : m < 1 := hm
        simp only [Nat.add_zero] at hc
        have hlt : n < 128 := by rw [hn]; simp only [Nat.reducePow]; omega
        have HN := hide hn
        clear hn hm
        by_cases h128 : 128 ≤ x
        · have ht := hide ((takeF_more 5 0 m (unhide HX) hk h128 (by decide)).symm.trans (unhide heq))
          rw [← unhide HN] at ht
          go_wp2
          exact ⟨⟨n, 1, by omega, rfl, rfl, rfl, by simp only [Nat.reducePow]; exact hlt, by rw [show k + 1 = k + 0 + 1 by omega]; exact unhide ht⟩, by simp [intOf]⟩
        · have hxx : x % 128 = x := by omega
          rw [hxx] at HN
          by_cases hb : 1099511627776 < n
          · omega
          · have ht := hide ((takeF_ok 5 0 m (unhide HX) hk h128 (fun h => absurd h.2 (by decide)) (by rw [← unhide HN]; exact hb)).symm.trans (unhide heq))
            rw [← unhide HN] at ht
            go_wp2
            all_goals (go_ret3; exact ⟨by rw [takeV, ← unhide ht]; rfl, rfl⟩)
      · obtain ⟨n, hn⟩ : ∃ n, n = m + x % 128 * 128 ^ 1 := ⟨_, rfl⟩
        have hA : (m : Int) + ((x : Int) % 128 * 128) = (n : Int) := by rw [hn]; simp only [Nat.reducePow]; omega
        have hm' : m < 128 := hm
        have hlt : n < 16384 := by rw [hn]; simp only [Nat.reducePow]; omega
        have HN := hide hn
        clear hn hm
        by_cases h128 : 128 ≤ x
        · have ht := hide ((takeF_more 4 1 m (unhide HX) hk h128 (by decide)).symm.trans (unhide heq))
          rw [← unhide HN] at ht
          go_wp2
          exact ⟨⟨n, 2, by omega, rfl, rfl, rfl, by simp only [Nat.reducePow]; exact hlt, by rw [show k + 2 = k + 1 + 1 by omega]; exact unhide ht⟩, by simp [intOf]⟩
        · have hxx : x % 128 = x := by omega
          rw [hxx] at HN
          by_cases h0 : x = 0
          · have ht := hide ((takeF_form 4 1 m (unhide HX) hk h0 (by decide)).symm.trans (unhide heq))
            go_wp2
            go_ret3
            exact ⟨by rw [takeV, ← unhide ht]; rfl, rfl⟩
          · by_cases hb : 1099511627776 < n
            · omega
            · have ht := hide ((takeF_ok 4 1 m (unhide HX) hk h128 (fun h => h0 h.1) (by rw [← unhide HN]; exact hb)).symm.trans (unhide heq))
              rw [← unhide HN] at ht
              go_wp2
              all_goals (go_ret3; exact ⟨by rw [takeV, ← unhide ht]; rfl, rfl⟩)
      · obtain ⟨n, hn⟩ : ∃ n, n = m + x % 128 * 128 ^ 2 := ⟨_, rfl⟩
        have hA : (m : Int) + ((x : Int) % 128 * 16384) = (n : Int) := by rw [hn]; simp only [Nat.reducePow]; omega
        have hm' : m < 16384 := hm
        have hlt : n < 2097152 := by rw [hn]; simp only [Nat.reducePow]; omega
        have HN := hide hn
        clear hn hm
        by_cases h128 : 128 ≤ x
        · have ht := hide ((takeF_more 3 2 m (unhide HX) hk h128 (by decide)).symm.trans (unhide heq))
          rw [← unhide HN] at ht
          go_wp2
          exact ⟨⟨n, 3, by omega, rfl, rfl, rfl, by simp only [Nat.reducePow]; exact hlt, by rw [show k + 3 = k + 2 + 1 by omega]; exact unhide ht⟩, by simp [intOf]⟩
        · have hxx : x % 128 = x := by omega
          rw [hxx] at HN
          by_cases h0 : x = 0
          · have ht := hide ((takeF_form 3 2 m (unhide HX) hk h0 (by decide)).symm.trans (unhide heq))
            go_wp2
            go_ret3
            exact ⟨by rw [takeV, ← unhide ht]; rfl, rfl⟩
          · by_cases hb : 1099511627776 < n
            · omega
            · have ht := hide ((takeF_ok 3 2 m (unhide HX) hk h128 (fun h => h0 h.1) (by rw [← unhide HN]; exact hb)).symm.trans (unhide heq))
              rw [← unhide HN] at ht
              go_wp2
              all_goals (go_ret3; exact ⟨by rw [takeV, ← unhide ht]; rfl, rfl⟩)
      · obtain ⟨n, hn⟩ : ∃ n, n = m + x % 128 * 128 ^ 3 := ⟨_, rfl⟩
        have hA : (m : Int) + ((x : Int) % 128 * 2097152) = (n : Int) := by rw [hn]; simp only [Nat.reducePow]; omega
        have hm' : m < 2097152 := hm
        have hlt : n < 268435456 := by rw [hn]; simp only [Nat.reducePow]; omega
        have HN := hide hn
        clear hn hm
        by_cases h128 : 128 ≤ x
        · have ht := hide ((takeF_more 2 3 m (unhide HX) hk h128 (by decide)).symm.trans (unhide heq))
          rw [← unhide HN] at ht
          go_wp2
          exact ⟨⟨n, 4, by omega, rfl, rfl, rfl, by simp only [Nat.reducePow]; exact hlt, by rw [show k + 4 = k + 3 + 1 by omega]; exact unhide ht⟩, by simp [intOf]⟩
        · have hxx : x % 128 = x := by omega
          rw [hxx] at HN
          by_cases h0 : x = 0
          · have ht := hide ((takeF_form 2 3 m (unhide HX) hk h0 (by decide)).symm.trans (unhide heq))
            go_wp2
            go_ret3
            exact ⟨by rw [takeV, ← unhide ht]; rfl, rfl⟩
          · by_cases hb : 1099511627776 < n
            · omega
            · have ht := hide ((takeF_ok 2 3 m (unhide HX) hk h128 (fun h => h0 h.1) (by rw [← unhide HN]; exact hb)).symm.trans (unhide heq))
              rw [← unhide HN] at ht
              go_wp2
              all_goals (go_ret3; exact ⟨by rw [takeV, ← unhide ht]; rfl, rfl⟩)
      · obtain ⟨n, hn⟩ : ∃ n, n = m + x % 128 * 128 ^ 4 := ⟨_, rfl⟩
        have hA : (m : Int) + ((x : Int) % 128 * 268435456) = (n : Int) := by rw [hn]; simp only [Nat.reducePow]; omega
        have hm' : m < 268435456 := hm
        have hlt : n < 34359738368 := by rw [hn]; simp only [Nat.reducePow]; omega
        have HN := hide hn
        clear hn hm
        by_cases h128 : 128 ≤ x
        · have ht := hide ((takeF_more 1 4 m (unhide HX) hk h128 (by decide)).symm.trans (unhide heq))
          rw [← unhide HN] at ht
          go_wp2
          exact ⟨⟨n, 5, by omega, rfl, rfl, rfl, by simp only [Nat.reducePow]; exact hlt, by rw [show k + 5 = k + 4 + 1 by omega]; exact unhide ht⟩, by simp [intOf]⟩
        · have hxx : x % 128 = x := by omega
          rw [hxx] at HN
          by_cases h0 : x = 0
          · have ht := hide ((takeF_form 1 4 m (unhide HX) hk h0 (by decide)).symm.trans (unhide heq))
            go_wp2
            go_ret3
            exact ⟨by rw [takeV, ← unhide ht]; rfl, rfl⟩
          · by_cases hb : 1099511627776 < n
            · omega
            · have ht := hide ((takeF_ok 1 4 m (unhide HX) hk h128 (fun h => h0 h.1) (by rw [← unhide HN]; exact hb)).symm.trans (unhide heq))
              rw [← unhide HN] at ht
              go_wp2
              all_goals (go_ret3; exact ⟨by rw [takeV, ← unhide ht]; rfl, rfl⟩)
      · obtain ⟨n, hn⟩ : ∃ n, n = m + x % 128 * 128 ^ 5 := ⟨_, rfl⟩
        have hA : (m : Int) + ((x : Int) % 128 * 34359738368) = (n : Int) := by rw [hn]; simp only [Nat.reducePow]; omega
        have hm' : m < 34359738368 := hm
        have hlt : n < 4398046511104 := by rw [hn]; simp only [Nat.reducePow]; omega
        have HN := hide hn
        clear hn hm
        by_cases h128 : 128 ≤ x
        · have ht := hide ((takeF_last 5 m (unhide HX) hk h128).symm.trans (unhide heq))
          go_wp2
          exact ⟨⟨n, 6, by omega, rfl, rfl, rfl, by simp only [Nat.reducePow]; exact hlt, by rw [← unhide ht]; rfl⟩, by simp [intOf]⟩
        · have hxx : x % 128 = x := by omega
          rw [hxx] at HN
          by_cases h0 : x = 0
          · have ht := hide ((takeF_form 0 5 m (unhide HX) hk h0 (by decide)).symm.trans (unhide heq))
            go_wp2
            go_ret3
            exact ⟨by rw [takeV, ← unhide ht]; rfl, rfl⟩
          · by_cases hb : 1099511627776 < n
            · have ht := hide ((takeF_big 0 5 m (unhide HX) hk h128 (fun h => h0 h.1) (by rw [← unhide HN]; exact hb)).symm.trans (unhide heq))
              go_wp2
              go_ret3
              exact ⟨by rw [takeV, ← unhide ht]; rfl, rfl⟩
            · have ht := hide ((takeF_ok 0 5 m (unhide HX) hk h128 (fun h => h0 h.1) (by rw [← unhide HN]; exact hb)).symm.trans (unhide heq))
              rw [← unhide HN] at ht
              go_wp2
              all_goals (go_ret3; exact ⟨by rw [takeV, ← unhide ht]; rfl, rfl⟩)
      · have ht := hide (show (6, 0, k + 6) = takeN l k from unhide heq)
        go_wp2
        go_ret3
        exact ⟨by rw [takeV, ← unhide ht]; rfl, rfl⟩
    · by_cases h6 : s = 6
      · subst h6
        have ht := hide (show (6, 0, k + 6) = takeN l k from unhide heq)
        go_wp2
        go_ret3
        exact ⟨by rw [takeV, ← unhide ht]; rfl, rfl⟩
      · have ht := hide (show (3, 0, k + s) = takeN l k by
          rw [← unhide heq]
          obtain ⟨f, hf⟩ : ∃ f, 6 - s = f + 1 := ⟨5 - s, by omega⟩
          rw [hf, takeF_short _ _ _ hk])
        go_wp2
        go_ret3
        exact ⟨by rw [takeV, ← unhide ht]; rfl, rfl⟩
end Go.Proofs.YtagncghpfdjkmaaGreatDoor
end
/- Changes out of bytes; the document's Get and GetChange. -/
section
namespace Go.Proofs.YtagncghpfdjkmaaGreatDoor
open Go.ChangeShapes Go.WideShapes Go.ChangeAt Go.RowKit

theorem nums_len_eq {l : List Nat} : ∀ {c k : Nat} {xs : List Int} {q : Nat}, numsE l c k = .ok (xs, q) → xs.length = c
  | 0, k, xs, q, h => by simp only [numsE, Except.ok.injEq, Prod.mk.injEq] at h; rw [← h.1]; rfl
  | c + 1, k, xs, q, h => by
    rw [numsE] at h
    cases ht : takeE l k with
    | error x => rw [ht] at h; cases h
    | ok r =>
      obtain ⟨n, k2⟩ := r
      rw [ht] at h
      simp only at h
      cases hn : numsE l c k2 with
      | error x => rw [hn] at h; cases h
      | ok s =>
        obtain ⟨s, k3⟩ := s
        rw [hn] at h
        simp only [Except.ok.injEq, Prod.mk.injEq] at h
        rw [← h.1, List.length_cons, nums_len_eq hn]
section
variable {w : World} {a : Option Addr} {c : Nat} {l : List Nat}
theorem refTake_ok (m : Nat) (k n k2 : Nat) (kk : Int) (hm : l.length = m) (hkk : kk = (k : Int)) (hl : l.length ≤ 140737488355328) (hk : k ≤ l.length) (hb : BytesAt w a l) (ht : takeE l k = .ok (n, k2)) :
    Calls Tryz.prog 64 #[.slice a m c, .int .i64 kk] w fun e w' => e = .returned (.tuple #[.int .i64 (n : Int), .int .i64 (k2 : Int), .int .i64 0]) ∧ w' = w := by
  refine (refTake_calls a m c l k kk w hm hkk hl hk hb).mono fun e w' ⟨h1, h2⟩ => ⟨?_, h2⟩
  rw [h1]
  have := takeE_ok ht
  simp [takeV, this]
theorem refTake_bad (m : Nat) (k x : Nat) (kk : Int) (hm : l.length = m) (hkk : kk = (k : Int)) (hl : l.length ≤ 140737488355328) (hk : k ≤ l.length) (hb : BytesAt w a l) (ht : takeE l k = .error x) :
    Calls Tryz.prog 64 #[.slice a m c, .int .i64 kk] w fun e w' => e = .returned (.tuple #[.int .i64 0, .int .i64 0, .int .i64 (x : Int)]) ∧ w' = w := by
  refine (refTake_calls a m c l k kk w hm hkk hl hk hb).mono fun e w' ⟨h1, h2⟩ => ⟨?_, h2⟩
  rw [h1]
  obtain ⟨t1, t2⟩ := takeE_err ht
  simp [takeV, t1, t2]
end
end Go.Proofs.YtagncghpfdjkmaaGreatDoor
end
