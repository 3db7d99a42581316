/- Member: there and back, in plain terms. -/
import Derived.Test.YtagncghpfdjkmaaGreatDoorB16
import Derived.Test.YtagncghpfdjkmaaGreatDoorB15
import Derived.Test.YtagncghpfdjkmaaGreatDoorB11
section
namespace Go.Proofs.YtagncghpfdjkmaaGreatDoor

theorem nums_at : ∀ (xs : List Int) {l a b : List Nat} {k : Nat}, l = a ++ (xs.map Int.toNat ++ b) → k = a.length → (∀ x ∈ xs, 0 ≤ x ∧ x ≤ 100) → numsE l xs.length k = .ok (xs, k + xs.length)
  | [], l, a, b, k, _, _, _ => rfl
  | x :: r, l, a, b, k, hl, hk, hx => by
    obtain ⟨h0, h1⟩ := hx x List.mem_cons_self
    have hn : numB x.toNat = [x.toNat] := numB_small (by omega)
    have ht : takeE l k = .ok (x.toNat, k + 1) := by
      have := takeE_at (l := l) (a := a) (b := r.map Int.toNat ++ b) (k := k) (n := x.toNat) (by rw [hl, hn]; simp) hk (by omega)
      rwa [hn] at this
    have ih := nums_at r (l := l) (a := a ++ [x.toNat]) (b := b) (k := k + 1) (by rw [hl]; simp) (by rw [hk]; simp) (fun y hy => hx y (List.mem_cons_of_mem _ hy))
    rw [List.length_cons, numsE, ht]
    simp only
    rw [ih]
    simp only [Except.ok.injEq, Prod.mk.injEq, List.cons.injEq, and_true]
    omega
theorem list_at (xs : List Int) {l a b : List Nat} {k : Nat} (hl : l = a ++ (listB xs ++ b)) (hk : k = a.length) (hx : ∀ x ∈ xs, 0 ≤ x ∧ x ≤ 100) (h9 : xs.length ≤ 9) : listE l k = .ok (xs, k + 1 + xs.length) := by
  have hn : numB xs.length = [xs.length] := numB_small (by omega)
  have ht : takeE l k = .ok (xs.length, k + 1) := by
    have := takeE_at (l := l) (a := a) (b := xs.map Int.toNat ++ b) (k := k) (n := xs.length) (by rw [hl, hn]; simp [listB]) hk (by omega)
    rwa [hn] at this
  rw [listE, ht]
  simp only
  rw [if_neg (by omega)]
  exact nums_at xs (a := a ++ [xs.length]) (b := b) (by rw [hl]; simp [listB]) (by rw [hk]; simp) hx
theorem right_in {v l : List Int} (h : rightM v l = true) : (∀ x ∈ v, 0 ≤ x ∧ x ≤ 100) ∧ (∀ x ∈ l, 0 ≤ x ∧ x ≤ 100) := by
  obtain ⟨h1, h2, _⟩ := right_parts h
  exact ⟨fun x hx => by have := rise_in v 0 (by omega) h1 x hx; omega, fun x hx => by have := rise_in l 0 (by omega) h2 x hx; omega⟩
theorem get_at {v l : List Int} (h : rightM v l = true) : getE (listB v ++ listB l) = .ok (v, l) := by
  obtain ⟨_, _, v9, l9, _⟩ := right_parts h
  obtain ⟨iv, il⟩ := right_in h
  have e1 := list_at v (l := listB v ++ listB l) (a := []) (b := listB l) (k := 0) (by simp) rfl iv v9
  have e2 := list_at l (l := listB v ++ listB l) (a := listB v) (b := []) (k := 0 + 1 + v.length) (by simp) (by simp [listB]; omega) il l9
  rw [getE, e1]
  simp only
  rw [e2]
  simp only
  rw [if_pos (by simp [listB]; omega), h]
  rfl
def flatB (xs : List Int) : List Nat := xs.flatMap fun x => numB x.toNat
theorem nums_back {l : List Nat} (hl : ∀ c ∈ l, c < 256) : ∀ {c k : Nat} {xs : List Int} {q : Nat}, numsE l c k = .ok (xs, q) → l.drop k = flatB xs ++ l.drop q
  | 0, k, xs, q, h => by
    simp only [numsE, Except.ok.injEq, Prod.mk.injEq] at h
    rw [← h.1, ← h.2]
    rfl
  | c + 1, k, xs, q, h => by
    rw [numsE] at h
    cases ht : takeE l k with
    | error x => rw [ht] at h; cases h
    | ok r =>
      obtain ⟨n, k2⟩ := r
      rw [ht] at h
      simp only at h
      cases hn : numsE l c k2 with
      | error x => rw [hn] at h; cases h
      | ok s =>
        obtain ⟨s, k3⟩ := s
        rw [hn] at h
        simp only [Except.ok.injEq, Prod.mk.injEq] at h
        obtain ⟨rfl, rfl⟩ := h
        rw [(takeE_back hl ht).1, nums_back hl hn]
        simp [flatB]
theorem list_back {l : List Nat} (hl : ∀ c ∈ l, c < 256) {k : Nat} {xs : List Int} {q : Nat} (h : listE l k = .ok (xs, q)) : l.drop k = numB xs.length ++ (flatB xs ++ l.drop q) ∧ xs.length ≤ 9 := by
  rw [listE] at h
  cases ht : takeE l k with
  | error x => rw [ht] at h; cases h
  | ok r =>
    obtain ⟨n, k2⟩ := r
    rw [ht] at h
    simp only at h
    by_cases h9 : 9 < n
    · rw [if_pos h9] at h; cases h
    · rw [if_neg h9] at h
      rw [(takeE_back hl ht).1, nums_back hl h, nums_len_eq h]
      exact ⟨rfl, by omega⟩
theorem flat_small {xs : List Int} (h : ∀ x ∈ xs, 0 ≤ x ∧ x ≤ 100) : flatB xs = xs.map Int.toNat := by
  induction xs with
  | nil => rfl
  | cons x r ih =>
    have hx := h x List.mem_cons_self
    have ih' := ih (fun y hy => h y (List.mem_cons_of_mem _ hy))
    unfold flatB at *
    rw [List.flatMap_cons, ih', numB_small (by omega)]
    rfl
theorem get_back {b : List Nat} (hb : ∀ c ∈ b, c < 256) {v l : List Int} (h : getE b = .ok (v, l)) : rightM v l = true ∧ listB v ++ listB l = b := by
  rw [getE] at h
  cases h1 : listE b 0 with
  | error x => rw [h1] at h; cases h
  | ok r =>
    obtain ⟨v', k⟩ := r
    rw [h1] at h
    simp only at h
    cases h2 : listE b k with
    | error x => rw [h2] at h; cases h
    | ok s =>
      obtain ⟨l', q⟩ := s
      rw [h2] at h
      simp only at h
      by_cases hq : q = b.length
      · rw [if_pos hq] at h
        cases hr : rightM v' l' with
        | false => rw [hr] at h; cases h
        | true =>
          rw [hr] at h
          simp only [if_true, Except.ok.injEq, Prod.mk.injEq] at h
          obtain ⟨rfl, rfl⟩ := h
          refine ⟨hr, ?_⟩
          obtain ⟨e1, n1⟩ := list_back hb h1
          obtain ⟨e2, n2⟩ := list_back hb h2
          obtain ⟨iv, il⟩ := right_in hr
          rw [List.drop_zero, e2, hq, List.drop_length, List.append_nil, flat_small iv, flat_small il, numB_small (by omega), numB_small (by omega)] at e1
          rw [e1]
          simp [listB]
      · rw [if_neg hq] at h; cases h
end Go.Proofs.YtagncghpfdjkmaaGreatDoor
end
/- Plain: a frame one byte of whose sum or of what it holds is another one is known by its sum. -/
section
namespace Go.Proofs.YtagncghpfdjkmaaGreatDoor

/-- What Next answers at the beginning of bytes that open as a frame does. -/
theorem nextE_parts (n : Nat) (s4 l rest : List Nat) (hn : n ≤ 65536) (h4 : s4.length = 4) (hl : l.length = n) :
    nextE (word4 n ++ (s4 ++ (l ++ rest))) 0 = if Crc.ext (Crc.ext 0 (word4 n)) l = num4 (s4 ++ (l ++ rest)) then 0 else 5 := by
  have d4 : (word4 n ++ (s4 ++ (l ++ rest))).drop 4 = s4 ++ (l ++ rest) := by
    conv => lhs; rw [← word4_length n]
    rw [List.drop_left]
  have d8 : (word4 n ++ (s4 ++ (l ++ rest))).drop 8 = l ++ rest := by
    rw [show 8 = 4 + 4 from rfl, ← List.drop_drop, d4]
    conv => lhs; rw [← h4]
    rw [List.drop_left]
  have t4 : (word4 n ++ (s4 ++ (l ++ rest))).take 4 = word4 n := by
    conv => lhs; rw [← word4_length n]
    rw [List.take_left]
  have hlen : (word4 n ++ (s4 ++ (l ++ rest))).length = 8 + n + rest.length := by
    simp only [List.length_append, word4_length, h4, hl]; omega
  have ht : (l ++ rest).take n = l := by rw [← hl, List.take_left]
  unfold nextE
  simp only [Nat.zero_add, List.drop_zero]
  rw [num4_word4, t4, d8, d4, ht, hlen, if_neg (by omega), if_neg (by omega), if_neg (by omega)]

end Go.Proofs.YtagncghpfdjkmaaGreatDoor
end
/- Snapshots, plainly: there and back. -/
section
namespace Go.Proofs.YtagncghpfdjkmaaGreatDoor
open Go.ChangeShapes Go.WideShapes Go.ChangeAt Go.RowKit
set_option linter.unusedVariables false

theorem snE_may {s : Sn} (h : snE s = 0) : (1 ≤ s.i ∧ s.i ≤ 1099511627776) ∧ (1 ≤ s.t ∧ s.t ≤ 1099511627776) ∧ rightM s.v s.l = true ∧ s.d.length ≤ 16384 := by
  unfold snE at h
  split at h
  · rename_i h1
    split at h
    · cases h
    · exact ⟨h1.1, h1.2.1, h1.2.2, by omega⟩
  · cases h
theorem snE_zero {s : Sn} (h1 : 1 ≤ s.i ∧ s.i ≤ 1099511627776) (h2 : 1 ≤ s.t ∧ s.t ≤ 1099511627776) (h3 : rightM s.v s.l = true) (h4 : s.d.length ≤ 16384) : snE s = 0 := by
  unfold snE
  rw [if_pos ⟨h1, h2, h3⟩, if_neg (by omega)]
theorem listB_len (l : List Int) : (listB l).length = 1 + l.length := by unfold listB; simp; omega
theorem mem_len {v l : List Int} (h : rightM v l = true) : (listB v ++ listB l).length ≤ 20 := by
  obtain ⟨_, _, h1, h2, _⟩ := right_parts h
  rw [List.length_append, listB_len, listB_len]
  omega
theorem snI_len {s : Sn} (h : snE s = 0) : (snI s).length ≤ 16428 := by
  obtain ⟨h1, h2, h3, h4⟩ := snE_may h
  have m := mem_len h3
  have n1 := numB_six s.i.toNat (by omega)
  have n2 := numB_six s.t.toNat (by omega)
  have n3 := numB_six (listB s.v ++ listB s.l).length (by omega)
  have n4 := numB_six s.d.length (by omega)
  unfold snI inB
  simp only [List.length_append] at *
  omega
theorem drop_app {α : Type} (a b : List α) {k : Nat} (h : k = a.length) : (a ++ b).drop k = b := by rw [h, List.drop_left]
theorem snG_at {s : Sn} (h : snE s = 0) : snG (snI s) = .ok s := by
  obtain ⟨⟨a1, a2⟩, ⟨b1, b2⟩, h3, h4⟩ := snE_may h
  obtain ⟨i, t, v, l, d⟩ := s
  dsimp only at *
  obtain ⟨i, rfl⟩ : ∃ k : Nat, i = (k : Int) := ⟨i.toNat, by omega⟩
  obtain ⟨t, rfl⟩ : ∃ k : Nat, t = (k : Int) := ⟨t.toNat, by omega⟩
  have ml := mem_len h3
  have gm := get_at h3
  have e0 : snI ⟨(i : Int), (t : Int), v, l, d⟩ = inB i t (listB v ++ listB l) d := by unfold snI; dsimp only; rw [Int.toNat_natCast, Int.toNat_natCast]
  rw [e0]
  generalize listB v ++ listB l = m at *
  have t1 : takeE (inB i t m d) 0 = .ok (i, 0 + (numB i).length) := takeE_at (a := []) (b := numB t ++ (numB m.length ++ (m ++ (numB d.length ++ d)))) rfl rfl (by omega)
  have t2 : takeE (inB i t m d) (0 + (numB i).length) = .ok (t, 0 + (numB i).length + (numB t).length) := takeE_at (a := numB i) (b := numB m.length ++ (m ++ (numB d.length ++ d))) rfl (by omega) (by omega)
  have t3 : takeE (inB i t m d) (0 + (numB i).length + (numB t).length) = .ok (m.length, 0 + (numB i).length + (numB t).length + (numB m.length).length) := takeE_at (a := numB i ++ numB t) (b := m ++ (numB d.length ++ d)) (by unfold inB; simp only [List.append_assoc]) (by rw [List.length_append]; omega) (by omega)
  have t4 : takeE (inB i t m d) (0 + (numB i).length + (numB t).length + (numB m.length).length + m.length) = .ok (d.length, 0 + (numB i).length + (numB t).length + (numB m.length).length + m.length + (numB d.length).length) := takeE_at (a := numB i ++ (numB t ++ (numB m.length ++ m))) (b := d) (by unfold inB; simp only [List.append_assoc]) (by simp only [List.length_append]; omega) (by omega)
  have hl : (inB i t m d).length = 0 + (numB i).length + (numB t).length + (numB m.length).length + m.length + (numB d.length).length + d.length := by unfold inB; simp only [List.length_append]; omega
  have hm : ((inB i t m d).drop (0 + (numB i).length + (numB t).length + (numB m.length).length)).take m.length = m := by
    rw [show inB i t m d = (numB i ++ (numB t ++ numB m.length)) ++ (m ++ (numB d.length ++ d)) by unfold inB; simp only [List.append_assoc], drop_app _ _ (by simp only [List.length_append]; omega), List.take_left]
  have hd : ((inB i t m d).drop (0 + (numB i).length + (numB t).length + (numB m.length).length + m.length + (numB d.length).length)).take d.length = d := by
    rw [show inB i t m d = (numB i ++ (numB t ++ (numB m.length ++ (m ++ numB d.length)))) ++ d by unfold inB; simp only [List.append_assoc], drop_app _ _ (by simp only [List.length_append]; omega), List.take_length]
  unfold snG
  rw [t1]
  dsimp only
  rw [if_neg (by omega), t2]
  dsimp only
  rw [if_neg (by omega), t3]
  dsimp only
  rw [if_neg (by rw [hl]; omega), hm, gm]
  dsimp only
  rw [t4]
  dsimp only
  rw [if_neg (by omega), if_neg (by rw [hl]; omega), if_neg (by rw [hl]; omega), hd]
theorem drop_take_app {α : Type} (l : List α) (k n : Nat) : l.drop k = (l.drop k).take n ++ l.drop (k + n) := by
  rw [← List.drop_drop, List.take_append_drop]
theorem snG_back {h : List Nat} (hb : ∀ c ∈ h, c < 256) {s : Sn} (e : snG h = .ok s) : snE s = 0 ∧ snI s = h := by
  unfold snG at e
  cases t1 : takeE h 0 with
  | error x => rw [t1] at e; cases e
  | ok q =>
    obtain ⟨i, k1⟩ := q
    rw [t1] at e
    dsimp only at e
    split at e
    · cases e
    rename_i hi
    cases t2 : takeE h k1 with
    | error x => rw [t2] at e; cases e
    | ok q =>
      obtain ⟨t, k2⟩ := q
      rw [t2] at e
      dsimp only at e
      split at e
      · cases e
      rename_i ht
      cases t3 : takeE h k2 with
      | error x => rw [t3] at e; cases e
      | ok q =>
        obtain ⟨n, k3⟩ := q
        rw [t3] at e
        dsimp only at e
        split at e
        · cases e
        rename_i hn
        cases g : getE ((h.drop k3).take n) with
        | error x => rw [g] at e; cases e
        | ok q =>
          obtain ⟨v, l⟩ := q
          rw [g] at e
          dsimp only at e
          cases t4 : takeE h (k3 + n) with
          | error x => rw [t4] at e; cases e
          | ok q =>
            obtain ⟨z, k4⟩ := q
            rw [t4] at e
            dsimp only at e
            split at e
            · cases e
            split at e
            · cases e
            split at e
            · cases e
            rename_i hz hs hl
            cases e
            obtain ⟨d1, e1, l1, n1⟩ := takeE_back hb t1
            obtain ⟨d2, e2, l2, n2⟩ := takeE_back hb t2
            obtain ⟨d3, e3, l3, n3⟩ := takeE_back hb t3
            obtain ⟨d4, e4, l4, n4⟩ := takeE_back hb t4
            obtain ⟨hr, hm⟩ := get_back (fun c hc => hb c (List.mem_of_mem_drop (List.mem_of_mem_take hc))) g
            have hzl : ((h.drop k4).take z) = h.drop k4 := List.take_of_length_le (by rw [List.length_drop]; omega)
            have hdl : (h.drop k4).length = z := by rw [List.length_drop]; omega
            refine ⟨snE_zero (by dsimp only; omega) (by dsimp only; omega) hr (by dsimp only; rw [hzl, hdl]; omega), ?_⟩
            unfold snI
            dsimp only
            rw [hzl, hm, Int.toNat_natCast, Int.toNat_natCast]
            unfold inB
            rw [show ((h.drop k3).take n).length = n by rw [List.length_take, List.length_drop]; omega, hdl, ← d4, ← drop_take_app h k3 n, ← d3, ← d2, ← d1, List.drop_zero]
theorem word_num {l : List Nat} (hl : ∀ c ∈ l, c < 256) (h4 : l.length = 4) : word4 (num4 l) = l := by
  match l, h4 with
  | [a, b, c, d], _ =>
    have ha := hl a (by simp)
    have hb := hl b (by simp)
    have hc := hl c (by simp)
    have hd := hl d (by simp)
    simp only [word4, num4, List.getD_cons_zero, List.getD_cons_succ]
    refine List.cons_eq_cons.2 ⟨by omega, List.cons_eq_cons.2 ⟨by omega, List.cons_eq_cons.2 ⟨by omega, List.cons_eq_cons.2 ⟨by omega, rfl⟩⟩⟩⟩
/-- Bytes that are one frame are just that frame's. -/
theorem frame_back {l : List Nat} (hl : ∀ c ∈ l, c < 256) (h0 : nextE l 0 = 0) (h1 : ¬ 8 + (nextH l 0).length < l.length) : frameB (nextH l 0) = l ∧ (nextH l 0).length ≤ 65536 := by
  obtain ⟨z1, z2, z3⟩ := nextE_zero h0
  have hlen : l.length = 8 + (nextH l 0).length := by omega
  have hx : nextE l 0 = 0 := h0
  unfold nextE at hx
  rw [if_neg (by omega)] at hx
  split at hx
  · cases hx
  rename_i hbig
  split at hx
  · cases hx
  split at hx
  · rename_i hc
    have hH : nextH l 0 = l.drop 8 := by
      unfold nextH
      rw [Nat.zero_add]
      refine List.take_of_length_le ?_
      rw [List.length_drop]
      rw [z2] at hlen
      omega
    rw [List.drop_zero] at *
    refine ⟨?_, by omega⟩
    have w1 : word4 (nextH l 0).length = l.take 4 := by
      rw [z2, ← num4_take]
      exact word_num (fun c hc => hl c (List.mem_of_mem_take hc)) (by rw [List.length_take]; omega)
    have hT : (l.drop (0 + 8)).take (num4 l) = nextH l 0 := by unfold nextH; rw [List.drop_zero]
    rw [hT] at hc
    have w2 : word4 (fsum (nextH l 0).length (nextH l 0)) = (l.drop 4).take 4 := by
      unfold fsum
      rw [w1, hc, Nat.zero_add, ← num4_take]
      exact word_num (fun c hc => hl c (List.mem_of_mem_drop (List.mem_of_mem_take hc))) (by rw [List.length_take, List.length_drop]; omega)
    unfold frameB
    rw [w1, w2, hH]
    have : (l.drop 4).take 4 ++ l.drop 8 = l.drop 4 := (drop_take_app l 4 4).symm
    rw [this, List.take_append_drop]
  · cases hx
theorem snL_at {s : Sn} (h : snE s = 0) : snL (frameB (snI s)) = .ok s := by
  have hl := snI_len h
  obtain ⟨h1, h2⟩ := frame_next [] (snI s) [] (by omega)
  simp only [List.nil_append, List.append_nil, List.length_nil] at h1 h2
  unfold snL
  rw [if_neg (by rw [h1]; decide), if_neg (by rw [h2, frameB_length]; omega), h2]
  exact snG_at h
theorem snL_back {l : List Nat} (hl : ∀ c ∈ l, c < 256) {s : Sn} (e : snL l = .ok s) : snE s = 0 ∧ snB s = l := by
  unfold snL at e
  split at e
  · cases e
  split at e
  · cases e
  rename_i h0 h1
  obtain ⟨f1, _⟩ := frame_back hl (Decidable.not_not.1 h0) h1
  obtain ⟨g1, g2⟩ := snG_back (nextH_lt hl 0) e
  refine ⟨g1, ?_⟩
  unfold snB
  rw [if_pos g1, g2, f1]
end Go.Proofs.YtagncghpfdjkmaaGreatDoor
end
/- Snapshots in memory; the program's Put. -/
section
namespace Go.Proofs.YtagncghpfdjkmaaGreatDoor
open Go.ChangeShapes Go.WideShapes Go.ChangeAt Go.RowKit
set_option linter.unusedVariables false

/-- Where a snapshot's rows lie. -/
structure SnH where
  va : Option Addr
  vc : Nat
  la : Option Addr
  lc : Nat
  dp : Option Addr
  dc : Nat
def snRow (s : Sn) (h : SnH) : Array Value := #[.int .i64 s.i, .int .i64 s.t, .slice h.va s.v.length h.vc, .slice h.la s.l.length h.lc, .slice h.dp s.d.length h.dc]
structure SnAt (w : World) (s : Sn) (h : SnH) : Prop where
  bi : -9223372036854775808 ≤ s.i ∧ s.i ≤ 9223372036854775807
  bt : -9223372036854775808 ≤ s.t ∧ s.t ≤ 9223372036854775807
  v : IntsAt w h.va s.v
  l : IntsAt w h.la s.l
  d : BytesAt w h.dp s.d
  vn : s.v.length ≤ maxLen
  ln : s.l.length ≤ maxLen
  dn : s.d.length ≤ h.dc
  dm : h.dc ≤ maxLen
  dz : h.dp = none → h.dc = 0
theorem SnAt.later {w w' : World} {s : Sn} {h : SnH} (z : SnAt w s h) (u : Below w.heap.size w w') : SnAt w' s h := ⟨z.bi, z.bt, z.v.later u, z.l.later u, z.d.later u, z.vn, z.ln, z.dn, z.dm, z.dz⟩
theorem bytesLt {w : World} {a : Option Addr} {l : List Nat} (h : BytesAt w a l) : ∀ b off, a = some ⟨b, off, none⟩ → 0 < l.length → b < w.heap.size := fun b off e h0 => by
  obtain ⟨b', off', e', hc⟩ := h.cell 0 h0
  rw [e] at e'
  cases e'
  exact cell_lt hc
theorem isPos_yes (n : Int) (w : World) (h : 1 ≤ n ∧ n ≤ 1099511627776) : Calls Tryz.prog 50 #[.int .i64 n] w fun e w' => e = .returned (.bool true) ∧ w' = w := by
  obtain ⟨h1, h2⟩ := h
  go_enter Tryz.func50, Tryz.ntmps50
  go_wp2
  go_ret
  exact ⟨rfl, rfl⟩
theorem isPos_no (n : Int) (w : World) (h : ¬ (1 ≤ n ∧ n ≤ 1099511627776)) : Calls Tryz.prog 50 #[.int .i64 n] w fun e w' => e = .returned (.bool false) ∧ w' = w := by
  by_cases h1 : 1 ≤ n
  · have h2 : ¬ n ≤ 1099511627776 := fun h2 => h ⟨h1, h2⟩
    clear h
    go_enter Tryz.func50, Tryz.ntmps50
    go_wp2
    go_ret
    exact ⟨rfl, rfl⟩
  · clear h
    go_enter Tryz.func50, Tryz.ntmps50
    go_wp2
    go_ret
    exact ⟨rfl, rfl⟩
section
variable {w : World} {sp : Option Addr} {c : Nat} {b : List Nat}
set_option maxHeartbeats 2000000 in
theorem saddNumber_calls (base n0 k : Nat) (hn0 : b.length = n0) (hown : OwnB base w sp c b) (hb : b.length ≤ 100000) (hk : k ≤ 1099511627776) (hbase : base ≤ w.heap.size) :
    Calls Tryz.prog 52 #[.slice sp n0 c, .int .i64 (k : Int)] w fun e w' => ∃ sp' n' c', e = .returned (.slice sp' n' c') ∧ Hid ((b ++ numB k).length = n') ∧ OwnB base w' sp' c' (b ++ numB k) ∧ Below base w w' := by
  have H := hide hown
  have N0 := hide hn0
  have HB := hide hb
  have SX := hide (numB_six k hk)
  clear hown hn0 hb
  go_enter Tryz.func52, Tryz.ntmps52
  go_wp2_with fail
  refine (number_yes k w hk).mono ?_
  rintro e w1 ⟨xp, m, xc, rfl, hm, hx, b1⟩
  have O1 := hide ((unhide H).later b1)
  have X1 := hide hx
  have B1 := hide b1
  have HM := hide (unhide hm)
  clear hx b1
  go_wp2_with (at_builtin; refine wpList_append8 rfl (.tmp 12) (.tmp 13) rfl base sp n0 c b rfl (unhide N0) (by exact unhide O1) xp m xc rfl (numB k) (unhide HM) (by exact (unhide X1).bytes) (by exact (unhide X1).nil0) (by have := unhide HB; have h2 := unhide HM; have h3 := unhide SX; omega) (by exact Nat.le_trans hbase (unhide B1).size) ?_; intro sp' n' c' w' hn' ho' hg' hb')
  go_ret
  exact ⟨sp', n', c', rfl, hn', ho', ((unhide B1).mono hbase).trans hb'⟩
set_option maxHeartbeats 2000000 in
theorem addPart_calls (base n0 : Nat) (hn0 : b.length = n0) (hown : OwnB base w sp c b) (hb : b.length ≤ 60000) (hbase : base ≤ w.heap.size) (xp : Option Addr) (m xc : Nat) (x : List Nat) (hm : x.length = m) (hx : BytesAt w xp x) (hz : xp = none → xc = 0) (hlo : ∀ g o, xp = some ⟨g, o, none⟩ → 0 < x.length → g < base) (hm2 : m ≤ 60000) :
    Calls Tryz.prog 54 #[.slice sp n0 c, .slice xp m xc] w fun e w' => ∃ sp' n' c', e = .returned (.slice sp' n' c') ∧ Hid ((b ++ (numB m ++ x)).length = n') ∧ OwnB base w' sp' c' (b ++ (numB m ++ x)) ∧ Below base w w' := by
  have AC := hide (saddNumber_calls base n0 m hn0 hown (by omega) (by omega) hbase)
  have HX := hide hx
  have HM := hide hm
  have HZ := hide hz
  have LO := hide hlo
  have HB := hide hb
  have SX := hide (numB_six m (by omega))
  clear hown hn0 hb hx hm hz hlo
  go_enter Tryz.func54, Tryz.ntmps54
  go_wp2_with fail
  go_at_call 52
  refine (unhide AC).mono ?_
  rintro e w1 ⟨sp1, n1, c1, rfl, hn1, ho1, b1⟩
  have O1 := hide ho1
  have B1 := hide b1
  have X1 := hide (show BytesAt w1 xp x from ⟨(unhide HX).lt, fun i hi => by
    obtain ⟨g, o, e, hc⟩ := (unhide HX).cell i hi
    exact ⟨g, o, e, (b1.cell (p := ⟨g, o + i, none⟩) (unhide LO g o e (by omega))).trans hc⟩⟩)
  have N1 := hide (unhide hn1)
  clear ho1 b1 hn1
  go_wp2_with (at_builtin; refine wpList_append8 rfl (.tmp 8) (.tmp 9) rfl base sp1 n1 c1 (b ++ numB m) rfl (unhide N1) (by exact unhide O1) xp m xc rfl x (unhide HM) (by exact unhide X1) (unhide HZ) (by have := unhide HB; have h3 := unhide SX; rw [List.length_append]; omega) (by exact Nat.le_trans hbase (unhide B1).size) ?_; intro sp' n' c' w' hn' ho' hg' hb')
  go_ret
  rw [List.append_assoc] at hn' ho'
  exact ⟨sp', n', c', rfl, hn', ho', (unhide B1).trans hb'⟩
end
/-- How Put ends. -/
def PutS (s : Sn) (w : World) (e : Ending) (w' : World) : Prop := Below w.heap.size w w' ∧ ((snE s ≠ 0 ∧ e = .returned (.tuple #[.slice none 0 0, .int .i64 (snE s : Int)])) ∨
  (snE s = 0 ∧ ∃ g n, e = .returned (.tuple #[.slice (some ⟨g, 0, none⟩) n n, .int .i64 0]) ∧ (snB s).length = n ∧ OwnB w.heap.size w' (some ⟨g, 0, none⟩) n (snB s)))
end Go.Proofs.YtagncghpfdjkmaaGreatDoor
end
