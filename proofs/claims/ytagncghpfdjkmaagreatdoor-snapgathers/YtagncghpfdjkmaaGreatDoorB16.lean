/- Snapshots, plainly: what their bytes are, and what bytes say. -/
import Derived.Test.YtagncghpfdjkmaaGreatDoorB11
import Derived.Test.YtagncghpfdjkmaaGreatDoorB14
import Derived.Test.YtagncghpfdjkmaaGreatDoorB15
import Derived.Test.YtagncghpfdjkmaaGreatDoorB12
section
namespace Go.Proofs.YtagncghpfdjkmaaGreatDoor
open Go.ChangeShapes Go.WideShapes Go.ChangeAt Go.RowKit
set_option linter.unusedVariables false

/-- A snapshot: index, term, voters, learners, data. -/
structure Sn where
  i : Int
  t : Int
  v : List Int
  l : List Int
  d : List Nat
/-- What a snapshot's frame holds. -/
def inB (i t : Nat) (m d : List Nat) : List Nat := numB i ++ (numB t ++ (numB m.length ++ (m ++ (numB d.length ++ d))))
/-- The error of putting it (0: none), and its bytes. -/
def snE (s : Sn) : Nat := if (1 ≤ s.i ∧ s.i ≤ 1099511627776) ∧ (1 ≤ s.t ∧ s.t ≤ 1099511627776) ∧ rightM s.v s.l = true then (if 16384 < s.d.length then 6 else 0) else 2
def snI (s : Sn) : List Nat := inB s.i.toNat s.t.toNat (listB s.v ++ listB s.l) s.d
def snB (s : Sn) : List Nat := if snE s = 0 then frameB (snI s) else []
/-- What a frame's bytes say. -/
def snG (h : List Nat) : Except Nat Sn := match takeE h 0 with
  | .error x => .error x
  | .ok (i, k1) => if i = 0 then .error 4 else match takeE h k1 with
    | .error x => .error x
    | .ok (t, k2) => if t = 0 then .error 4 else match takeE h k2 with
      | .error x => .error x
      | .ok (n, k3) => if h.length - k3 < n then .error 3 else match getE ((h.drop k3).take n) with
        | .error x => .error x
        | .ok (v, l) => match takeE h (k3 + n) with
          | .error x => .error x
          | .ok (z, k4) => if 16384 < z then .error 6 else if h.length - k4 < z then .error 3 else if k4 + z < h.length then .error 4 else .ok ⟨i, t, v, l, (h.drop k4).take z⟩
def snL (l : List Nat) : Except Nat Sn := if nextE l 0 ≠ 0 then .error (nextE l 0) else if 8 + (nextH l 0).length < l.length then .error 4 else snG (nextH l 0)
/-- The program's reader: a place, and the first error. -/
def failR (e x : Nat) : Nat := if e = 0 then x else e
def numR (h : List Nat) (k e : Nat) : Nat × Nat × Nat := if e ≠ 0 then (0, k, e) else match takeE h k with
  | .ok (n, k2) => (n, k2, 0)
  | .error x => (0, k, x)
def posR (h : List Nat) (k e : Nat) : Nat × Nat × Nat := ((numR h k e).1, (numR h k e).2.1, if (numR h k e).1 = 0 then failR (numR h k e).2.2 4 else (numR h k e).2.2)
def cutE (h : List Nat) (k e n : Nat) : Nat := if h.length - k < n then failR e 3 else e
def cutR (h : List Nat) (k e n : Nat) : List Nat × Nat × Nat := if cutE h k e n ≠ 0 then ([], k, cutE h k e n) else ((h.drop k).take n, k + n, 0)
def memV (r : Except Nat (List Int × List Int)) : List Int × List Int := match r with
  | .ok x => x
  | .error _ => ([], [])
def memX (r : Except Nat (List Int × List Int)) : Nat := match r with
  | .ok _ => 0
  | .error x => x
def memR (h : List Nat) (k e : Nat) : (List Int × List Int) × Nat × Nat :=
  let a := numR h k e
  let b := cutR h a.2.1 a.2.2 a.1
  (memV (getE b.1), b.2.1, failR b.2.2 (memX (getE b.1)))
def datR (h : List Nat) (k e : Nat) : List Nat × Nat × Nat :=
  let a := numR h k e
  cutR h a.2.1 (if 16384 < a.1 then failR a.2.2 6 else a.2.2) a.1
def endR (h : List Nat) (k e : Nat) : Nat := if k < h.length then failR e 4 else e
theorem numR_ok {h : List Nat} {k n k2 : Nat} (ht : takeE h k = .ok (n, k2)) : numR h k 0 = (n, k2, 0) := by simp [numR, ht]
theorem numR_bad {h : List Nat} {k x : Nat} (ht : takeE h k = .error x) : numR h k 0 = (0, k, x) := by simp [numR, ht]
theorem numR_err {h : List Nat} {k e : Nat} (he : e ≠ 0) : numR h k e = (0, k, e) := by simp [numR, he]
theorem failR_err {e x : Nat} (he : e ≠ 0) : failR e x = e := by simp [failR, he]
theorem posR_err {h : List Nat} {k e : Nat} (he : e ≠ 0) : posR h k e = (0, k, e) := by simp [posR, numR_err he, failR_err he]
theorem cutR_err {h : List Nat} {k e n : Nat} (he : e ≠ 0) : cutR h k e n = ([], k, e) := by
  have : cutE h k e n = e := by unfold cutE; rw [failR_err he]; simp
  simp [cutR, this, he]
theorem memR_err {h : List Nat} {k e : Nat} (he : e ≠ 0) : (memR h k e).2 = (k, e) := by
  unfold memR
  simp only [numR_err he, cutR_err he, failR_err he]
theorem datR_err {h : List Nat} {k e : Nat} (he : e ≠ 0) : datR h k e = ([], k, e) := by
  unfold datR
  simp only [numR_err he]
  rw [if_neg (by omega), cutR_err he]
theorem endR_err {h : List Nat} {k e : Nat} (he : e ≠ 0) : endR h k e = e := by
  unfold endR
  rw [failR_err he]
  simp
/-- All that it reads of what a frame holds. -/
def allE (h : List Nat) : Nat :=
  let a := posR h 0 0
  let b := posR h a.2.1 a.2.2
  let c := memR h b.2.1 b.2.2
  let d := datR h c.2.1 c.2.2
  endR h d.2.1 d.2.2
def allV (h : List Nat) : Sn :=
  let a := posR h 0 0
  let b := posR h a.2.1 a.2.2
  let c := memR h b.2.1 b.2.2
  let d := datR h c.2.1 c.2.2
  ⟨a.1, b.1, c.1.1, c.1.2, d.1⟩
theorem numsE_pos {l : List Nat} : ∀ {n k x : Nat}, numsE l n k = .error x → x ≠ 0
  | 0, k, x, h => by cases h
  | n + 1, k, x, h => by
    unfold numsE at h
    cases h1 : takeE l k with
    | error y =>
      rw [h1] at h
      cases h
      exact takeE_pos h1
    | ok q =>
      obtain ⟨y, k2⟩ := q
      rw [h1] at h
      dsimp only at h
      cases h2 : numsE l n k2 with
      | error y =>
        rw [h2] at h
        cases h
        exact numsE_pos h2
      | ok q =>
        rw [h2] at h
        cases h
theorem listE_pos {l : List Nat} {k x : Nat} (h : listE l k = .error x) : x ≠ 0 := by
  unfold listE at h
  cases h1 : takeE l k with
  | error y =>
    rw [h1] at h
    cases h
    exact takeE_pos h1
  | ok q =>
    obtain ⟨y, k2⟩ := q
    rw [h1] at h
    dsimp only at h
    split at h
    · cases h; decide
    · exact numsE_pos h
theorem getE_pos {l : List Nat} {x : Nat} (h : getE l = .error x) : x ≠ 0 := by
  unfold getE at h
  cases h1 : listE l 0 with
  | error y =>
    rw [h1] at h
    cases h
    exact listE_pos h1
  | ok q =>
    obtain ⟨v, k⟩ := q
    rw [h1] at h
    dsimp only at h
    cases h2 : listE l k with
    | error y =>
      rw [h2] at h
      cases h
      exact listE_pos h2
    | ok q =>
      obtain ⟨r, k2⟩ := q
      rw [h2] at h
      dsimp only at h
      split at h
      · split at h
        · cases h
        · cases h; decide
      · cases h; decide
/-- That is just what the bytes say. -/
theorem all_is (h : List Nat) : match snG h with
    | .ok s => allE h = 0 ∧ allV h = s
    | .error x => allE h = x ∧ x ≠ 0 := by
  unfold allE allV snG
  cases t1 : takeE h 0 with
  | error x =>
    have hx := takeE_pos t1
    have e1 : posR h 0 0 = (0, 0, x) := by simp [posR, numR_bad t1, failR_err hx]
    dsimp only
    rw [e1]
    dsimp only
    rw [posR_err hx]
    dsimp only
    rw [memR_err hx]
    dsimp only
    rw [datR_err hx]
    exact ⟨endR_err hx, hx⟩
  | ok q =>
    obtain ⟨i, k1⟩ := q
    dsimp only
    by_cases hi : i = 0
    · rw [if_pos hi]
      have hx : (4 : Nat) ≠ 0 := by decide
      have e1 : posR h 0 0 = (i, k1, 4) := by simp [posR, numR_ok t1, hi, failR]
      rw [e1]
      dsimp only
      rw [posR_err hx]
      dsimp only
      rw [memR_err hx]
      dsimp only
      rw [datR_err hx]
      exact ⟨endR_err hx, hx⟩
    · rw [if_neg hi]
      have e1 : posR h 0 0 = (i, k1, 0) := by simp [posR, numR_ok t1, hi]
      rw [e1]
      dsimp only
      cases t2 : takeE h k1 with
      | error x =>
        have hx := takeE_pos t2
        have e2 : posR h k1 0 = (0, k1, x) := by simp [posR, numR_bad t2, failR_err hx]
        dsimp only
        rw [e2]
        dsimp only
        rw [memR_err hx]
        dsimp only
        rw [datR_err hx]
        exact ⟨endR_err hx, hx⟩
      | ok q =>
        obtain ⟨t, k2⟩ := q
        dsimp only
        by_cases ht : t = 0
        · rw [if_pos ht]
          have hx : (4 : Nat) ≠ 0 := by decide
          have e2 : posR h k1 0 = (t, k2, 4) := by simp [posR, numR_ok t2, ht, failR]
          rw [e2]
          dsimp only
          rw [memR_err hx]
          dsimp only
          rw [datR_err hx]
          exact ⟨endR_err hx, hx⟩
        · rw [if_neg ht]
          have e2 : posR h k1 0 = (t, k2, 0) := by simp [posR, numR_ok t2, ht]
          rw [e2]
          dsimp only
          cases t3 : takeE h k2 with
          | error x =>
            have hx := takeE_pos t3
            have e3 : (memR h k2 0).2 = (k2, x) := by
              unfold memR
              simp only [numR_bad t3, cutR_err hx, failR_err hx]
            dsimp only
            rw [e3]
            dsimp only
            rw [datR_err hx]
            exact ⟨endR_err hx, hx⟩
          | ok q =>
            obtain ⟨n, k3⟩ := q
            dsimp only
            by_cases hn : h.length - k3 < n
            · rw [if_pos hn]
              have hx : (3 : Nat) ≠ 0 := by decide
              have e3 : (memR h k2 0).2 = (k3, 3) := by
                have hc : cutR h k3 0 n = ([], k3, 3) := by simp [cutR, cutE, hn, failR]
                unfold memR
                simp only [numR_ok t3, hc, failR_err hx]
              rw [e3]
              dsimp only
              rw [datR_err hx]
              exact ⟨endR_err hx, hx⟩
            · rw [if_neg hn]
              have hc : cutR h k3 0 n = ((h.drop k3).take n, k3 + n, 0) := by simp [cutR, cutE, hn]
              have e3 : memR h k2 0 = (memV (getE ((h.drop k3).take n)), k3 + n, memX (getE ((h.drop k3).take n))) := by
                unfold memR
                simp only [numR_ok t3, hc]
                rfl
              rw [e3]
              cases g : getE ((h.drop k3).take n) with
              | error x =>
                have hx := getE_pos g
                dsimp only [memX, memV]
                rw [datR_err hx]
                exact ⟨endR_err hx, hx⟩
              | ok q =>
                obtain ⟨v, l⟩ := q
                dsimp only [memX, memV]
                cases t4 : takeE h (k3 + n) with
                | error x =>
                  have hx := takeE_pos t4
                  have e4 : datR h (k3 + n) 0 = ([], k3 + n, x) := by
                    unfold datR
                    simp only [numR_bad t4]
                    rw [if_neg (by omega), cutR_err hx]
                  dsimp only
                  rw [e4]
                  exact ⟨endR_err hx, hx⟩
                | ok q =>
                  obtain ⟨z, k4⟩ := q
                  dsimp only
                  by_cases hz : 16384 < z
                  · rw [if_pos hz]
                    have hx : (6 : Nat) ≠ 0 := by decide
                    have e4 : datR h (k3 + n) 0 = ([], k4, 6) := by
                      unfold datR
                      simp only [numR_ok t4]
                      rw [if_pos hz]
                      exact cutR_err hx
                    rw [e4]
                    exact ⟨endR_err hx, hx⟩
                  · rw [if_neg hz]
                    by_cases hs : h.length - k4 < z
                    · rw [if_pos hs]
                      have hx : (3 : Nat) ≠ 0 := by decide
                      have e4 : datR h (k3 + n) 0 = ([], k4, 3) := by
                        unfold datR
                        simp only [numR_ok t4]
                        rw [if_neg hz]
                        simp [cutR, cutE, hs, failR]
                      rw [e4]
                      exact ⟨endR_err hx, hx⟩
                    · rw [if_neg hs]
                      have e4 : datR h (k3 + n) 0 = ((h.drop k4).take z, k4 + z, 0) := by
                        unfold datR
                        simp only [numR_ok t4]
                        rw [if_neg hz]
                        simp [cutR, cutE, hs]
                      rw [e4]
                      dsimp only
                      by_cases hb : k4 + z < h.length
                      · rw [if_pos hb]
                        exact ⟨by simp [endR, hb, failR], by decide⟩
                      · rw [if_neg hb]
                        exact ⟨by simp [endR, hb], rfl⟩
end Go.Proofs.YtagncghpfdjkmaaGreatDoor
end
/- The contracts of the document's answers of layer 2: Number, TakeNumber. -/
section
namespace Go.Proofs.YtagncghpfdjkmaaGreatDoor
open Go.ChangeShapes Go.WideShapes Go.ChangeAt Go.RowKit

/-- What TakeNumber answers. -/
def takeV (l : List Nat) (k : Nat) : Value :=
  if (takeN l k).1 = 0 then .tuple #[.int .i64 ((takeN l k).2.1 : Int), .int .i64 ((takeN l k).2.2 : Int), .int .i64 0] else .tuple #[.int .i64 0, .int .i64 0, .int .i64 ((takeN l k).1 : Int)]
set_option maxRecDepth 20000 in
set_option maxHeartbeats 1000000 in
theorem refTake_calls (a : Option Addr) (M c : Nat) (l : List Nat) (k : Nat) (kk : Int) (w : World) (hM : l.length = M) (hkk : kk = (k : Int)) (hl : l.length ≤ 140737488355328) (hk : k ≤ l.length) (hb : BytesAt w a l) :
    Calls Tryz.prog 64 #[.slice a M c, .int .i64 kk] w fun e w' => e = .returned (takeV l k) ∧ w' = w := by
  subst hM hkk
  have HB := hide hb
  clear hb
  have hk0 := hk
  go_enter Tryz.func64, Tryz.ntmps64
  go_wp2
  clear hk
  go_loop [7, 8, 9] (fun x u i => ∃ (m s : Nat), s ≤ 6 ∧ i = .int .i64 (s : Int) ∧ u = .int .i64 ((128 ^ s : Nat) : Int) ∧ x = .int .i64 (m : Int) ∧ m < 128 ^ s ∧ Hid (takeF l (6 - s) s m (k + s) = takeN l k)) (fun _ _ i => 6 - (intOf i).toNat)
  case atStart => exact ⟨0, 0, by omega, rfl, rfl, rfl, by decide, rfl⟩
  case round =>
    obtain ⟨m, s, hs, rfl, rfl, rfl, hm, heq⟩ := hrel
    by_cases hk : k + s < l.length
    · obtain ⟨b, off, rfl, hc⟩ := (unhide HB).cell (k + s) hk
      have hx := getD_lt (unhide HB).lt (k + s)
      generalize hxx : l.getD (k + s) 0 = x at *
      have HX := hide hxx
      clear hxx
      rcases (by omega : s = 0 ∨ s = 1 ∨ s = 2 ∨ s = 3 ∨ s = 4 ∨ s = 5 ∨ s = 6) with rfl | rfl | rfl | rfl | rfl | rfl | rfl
      · obtain ⟨n, hn⟩ : ∃ n, n = m + x % 128 * 128 ^ 0 := ⟨_, rfl⟩
        have hA : (m : Int) + ((x : Int) % 128) = (n : Int) := by rw [hn]; simp only [Nat.reducePow]; omega
        have hm' : m < 1 := hm
        simp only [Nat.add_zero] at hc
        have hlt : n < 128 := by rw [hn]; simp only [Nat.reducePow]; omega
        have HN := hide hn
        clear hn hm
        by_cases h128 : 128 ≤ x
        · have ht := hide ((takeF_more 5 0 m (unhide HX) hk h128 (by decide)).symm.trans (unhide heq))
          rw [← unhide HN] at ht
          go_wp2
          exact ⟨⟨n, 1, by omega, rfl, rfl, rfl, by simp only [Nat.reducePow]; exact hlt, by rw [show k + 1 = k + 0 + 1 by omega]; exact unhide ht⟩, by simp [intOf]⟩
        · have hxx : x % 128 = x := by omega
          rw [hxx] at HN
          by_cases hb : 1099511627776 < n
          · omega
          · have ht := hide ((takeF_ok 5 0 m (unhide HX) hk h128 (fun h => absurd h.2 (by decide)) (by rw [← unhide HN]; exact hb)).symm.trans (unhide heq))
            rw [← unhide HN] at ht
            go_wp2
            all_goals (go_ret3; exact ⟨by rw [takeV, ← unhide ht]; rfl, rfl⟩)
      · obtain ⟨n, hn⟩ : ∃ n, n = m + x % 128 * 128 ^ 1 := ⟨_, rfl⟩
        have hA : (m : Int) + ((x : Int) % 128 * 128) = (n : Int) := by rw [hn]; simp only [Nat.reducePow]; omega
        have hm' : m < 128 := hm
        have hlt : n < 16384 := by rw [hn]; simp only [Nat.reducePow]; omega
        have HN := hide hn
        clear hn hm
        by_cases h128 : 128 ≤ x
        · have ht := hide ((takeF_more 4 1 m (unhide HX) hk h128 (by decide)).symm.trans (unhide heq))
          rw [← unhide HN] at ht
          go_wp2
          exact ⟨⟨n, 2, by omega, rfl, rfl, rfl, by simp only [Nat.reducePow]; exact hlt, by rw [show k + 2 = k + 1 + 1 by omega]; exact unhide ht⟩, by simp [intOf]⟩
        · have hxx : x % 128 = x := by omega
          rw [hxx] at HN
          by_cases h0 : x = 0
          · have ht := hide ((takeF_form 4 1 m (unhide HX) hk h0 (by decide)).symm.trans (unhide heq))
            go_wp2
            go_ret3
            exact ⟨by rw [takeV, ← unhide ht]; rfl, rfl⟩
          · by_cases hb : 1099511627776 < n
            · omega
            · have ht := hide ((takeF_ok 4 1 m (unhide HX) hk h128 (fun h => h0 h.1) (by rw [← unhide HN]; exact hb)).symm.trans (unhide heq))
              rw [← unhide HN] at ht
              go_wp2
              all_goals (go_ret3; exact ⟨by rw [takeV, ← unhide ht]; rfl, rfl⟩)
      · obtain ⟨n, hn⟩ : ∃ n, n = m + x % 128 * 128 ^ 2 := ⟨_, rfl⟩
        have hA : (m : Int) + ((x : Int) % 128 * 16384) = (n : Int) := by rw [hn]; simp only [Nat.reducePow]; omega
        have hm' : m < 16384 := hm
        have hlt : n < 2097152 := by rw [hn]; simp only [Nat.reducePow]; omega
        have HN := hide hn
        clear hn hm
        by_cases h128 : 128 ≤ x
        · have ht := hide ((takeF_more 3 2 m (unhide HX) hk h128 (by decide)).symm.trans (unhide heq))
          rw [← unhide HN] at ht
          go_wp2
          exact ⟨⟨n, 3, by omega, rfl, rfl, rfl, by simp only [Nat.reducePow]; exact hlt, by rw [show k + 3 = k + 2 + 1 by omega]; exact unhide ht⟩, by simp [intOf]⟩
        · have hxx : x % 128 = x := by omega
          rw [hxx] at HN
          by_cases h0 : x = 0
          · have ht := hide ((takeF_form 3 2 m (unhide HX) hk h0 (by decide)).symm.trans (unhide heq))
            go_wp2
            go_ret3
            exact ⟨by rw [takeV, ← unhide ht]; rfl, rfl⟩
          · by_cases hb : 1099511627776 < n
            · omega
            · have ht := hide ((takeF_ok 3 2 m (unhide HX) hk h128 (fun h => h0 h.1) (by rw [← unhide HN]; exact hb)).symm.trans (unhide heq))
              rw [← unhide HN] at ht
              go_wp2
              all_goals (go_ret3; exact ⟨by rw [takeV, ← unhide ht]; rfl, rfl⟩)
      · obtain ⟨n, hn⟩ : ∃ n, n = m + x % 128 * 128 ^ 3 := ⟨_, rfl⟩
        have hA : (m : Int) + ((x : Int) % 128 * 2097152) = (n : Int) := by rw [hn]; simp only [Nat.reducePow]; omega
        have hm' : m < 2097152 := hm
        have hlt : n < 268435456 := by rw [hn]; simp only [Nat.reducePow]; omega
        have HN := hide hn
        clear hn hm
        by_cases h128 : 128 ≤ x
        · have ht := hide ((takeF_more 2 3 m (unhide HX) hk h128 (by decide)).symm.trans (unhide heq))
          rw [← unhide HN] at ht
          go_wp2
          exact ⟨⟨n, 4, by omega, rfl, rfl, rfl, by simp only [Nat.reducePow]; exact hlt, by rw [show k + 4 = k + 3 + 1 by omega]; exact unhide ht⟩, by simp [intOf]⟩
        · have hxx : x % 128 = x := by omega
          rw [hxx] at HN
          by_cases h0 : x = 0
          · have ht := hide ((takeF_form 2 3 m (unhide HX) hk h0 (by decide)).symm.trans (unhide heq))
            go_wp2
            go_ret3
            exact ⟨by rw [takeV, ← unhide ht]; rfl, rfl⟩
          · by_cases hb : 1099511627776 < n
            · omega
            · have ht := hide ((takeF_ok 2 3 m (unhide HX) hk h128 (fun h => h0 h.1) (by rw [← unhide HN]; exact hb)).symm.trans (unhide heq))
              rw [← unhide HN] at ht
              go_wp2
              all_goals (go_ret3; exact ⟨by rw [takeV, ← unhide ht]; rfl, rfl⟩)
      · obtain ⟨n, hn⟩ : ∃ n, n = m + x % 128 * 128 ^ 4 := ⟨_, rfl⟩
        have hA : (m : Int) + ((x : Int) % 128 * 268435456) = (n : Int) := by rw [hn]; simp only [Nat.reducePow]; omega
        have hm' : m < 268435456 := hm
        have hlt : n < 34359738368 := by rw [hn]; simp only [Nat.reducePow]; omega
        have HN := hide hn
        clear hn hm
        by_cases h128 : 128 ≤ x
        · have ht := hide ((takeF_more 1 4 m (unhide HX) hk h128 (by decide)).symm.trans (unhide heq))
          rw [← unhide HN] at ht
          go_wp2
          exact ⟨⟨n, 5, by omega, rfl, rfl, rfl, by simp only [Nat.reducePow]; exact hlt, by rw [show k + 5 = k + 4 + 1 by omega]; exact unhide ht⟩, by simp [intOf]⟩
        · have hxx : x % 128 = x := by omega
          rw [hxx] at HN
          by_cases h0 : x = 0
          · have ht := hide ((takeF_form 1 4 m (unhide HX) hk h0 (by decide)).symm.trans (unhide heq))
            go_wp2
            go_ret3
            exact ⟨by rw [takeV, ← unhide ht]; rfl, rfl⟩
          · by_cases hb : 1099511627776 < n
            · omega
            · have ht := hide ((takeF_ok 1 4 m (unhide HX) hk h128 (fun h => h0 h.1) (by rw [← unhide HN]; exact hb)).symm.trans (unhide heq))
              rw [← unhide HN] at ht
              go_wp2
              all_goals (go_ret3; exact ⟨by rw [takeV, ← unhide ht]; rfl, rfl⟩)
      · obtain ⟨n, hn⟩ : ∃ n, n = m + x % 128 * 128 ^ 5 := ⟨_, rfl⟩
        have hA : (m : Int) + ((x : Int) % 128 * 34359738368) = (n : Int) := by rw [hn]; simp only [Nat.reducePow]; omega
        have hm' : m < 34359738368 := hm
        have hlt : n < 4398046511104 := by rw [hn]; simp only [Nat.reducePow]; omega
        have HN := hide hn
        clear hn hm
        by_cases h128 : 128 ≤ x
        · have ht := hide ((takeF_last 5 m (unhide HX) hk h128).symm.trans (unhide heq))
          go_wp2
          exact ⟨⟨n, 6, by omega, rfl, rfl, rfl, by simp only [Nat.reducePow]; exact hlt, by rw [← unhide ht]; rfl⟩, by simp [intOf]⟩
        · have hxx : x % 128 = x := by omega
          rw [hxx] at HN
          by_cases h0 : x = 0
          · have ht := hide ((takeF_form 0 5 m (unhide HX) hk h0 (by decide)).symm.trans (unhide heq))
            go_wp2
            go_ret3
            exact ⟨by rw [takeV, ← unhide ht]; rfl, rfl⟩
          · by_cases hb : 1099511627776 < n
            · have ht := hide ((takeF_big 0 5 m (unhide HX) hk h128 (fun h => h0 h.1) (by rw [← unhide HN]; exact hb)).symm.trans (unhide heq))
              go_wp2
              go_ret3
              exact ⟨by rw [takeV, ← unhide ht]; rfl, rfl⟩
            · have ht := hide ((takeF_ok 0 5 m (unhide HX) hk h128 (fun h => h0 h.1) (by rw [← unhide HN]; exact hb)).symm.trans (unhide heq))
              rw [← unhide HN] at ht
              go_wp2
              all_goals (go_ret3; exact ⟨by rw [takeV, ← unhide ht]; rfl, rfl⟩)
      · have ht := hide (show (6, 0, k + 6) = takeN l k from unhide heq)
        go_wp2
        go_ret3
        exact ⟨by rw [takeV, ← unhide ht]; rfl, rfl⟩
    · by_cases h6 : s = 6
      · subst h6
        have ht := hide (show (6, 0, k + 6) = takeN l k from unhide heq)
        go_wp2
        go_ret3
        exact ⟨by rw [takeV, ← unhide ht]; rfl, rfl⟩
      · have ht := hide (show (3, 0, k + s) = takeN l k by
          rw [← unhide heq]
          obtain ⟨f, hf⟩ : ∃ f, 6 - s = f + 1 := ⟨5 - s, by omega⟩
          rw [hf, takeF_short _ _ _ hk])
        go_wp2
        go_ret3
        exact ⟨by rw [takeV, ← unhide ht]; rfl, rfl⟩
end Go.Proofs.YtagncghpfdjkmaaGreatDoor
end
/- Changes out of bytes; the document's Get and GetChange. -/
section
namespace Go.Proofs.YtagncghpfdjkmaaGreatDoor
open Go.ChangeShapes Go.WideShapes Go.ChangeAt Go.RowKit

theorem nums_len_eq {l : List Nat} : ∀ {c k : Nat} {xs : List Int} {q : Nat}, numsE l c k = .ok (xs, q) → xs.length = c
  | 0, k, xs, q, h => by simp only [numsE, Except.ok.injEq, Prod.mk.injEq] at h; rw [← h.1]; rfl
  | c + 1, k, xs, q, h => by
    rw [numsE] at h
    cases ht : takeE l k with
    | error x => rw [ht] at h; cases h
    | ok r =>
      obtain ⟨n, k2⟩ := r
      rw [ht] at h
      simp only at h
      cases hn : numsE l c k2 with
      | error x => rw [hn] at h; cases h
      | ok s =>
        obtain ⟨s, k3⟩ := s
        rw [hn] at h
        simp only [Except.ok.injEq, Prod.mk.injEq] at h
        rw [← h.1, List.length_cons, nums_len_eq hn]
section
variable {w : World} {a : Option Addr} {c : Nat} {l : List Nat}
theorem refTake_ok (m : Nat) (k n k2 : Nat) (kk : Int) (hm : l.length = m) (hkk : kk = (k : Int)) (hl : l.length ≤ 140737488355328) (hk : k ≤ l.length) (hb : BytesAt w a l) (ht : takeE l k = .ok (n, k2)) :
    Calls Tryz.prog 64 #[.slice a m c, .int .i64 kk] w fun e w' => e = .returned (.tuple #[.int .i64 (n : Int), .int .i64 (k2 : Int), .int .i64 0]) ∧ w' = w := by
  refine (refTake_calls a m c l k kk w hm hkk hl hk hb).mono fun e w' ⟨h1, h2⟩ => ⟨?_, h2⟩
  rw [h1]
  have := takeE_ok ht
  simp [takeV, this]
theorem refTake_bad (m : Nat) (k x : Nat) (kk : Int) (hm : l.length = m) (hkk : kk = (k : Int)) (hl : l.length ≤ 140737488355328) (hk : k ≤ l.length) (hb : BytesAt w a l) (ht : takeE l k = .error x) :
    Calls Tryz.prog 64 #[.slice a m c, .int .i64 kk] w fun e w' => e = .returned (.tuple #[.int .i64 0, .int .i64 0, .int .i64 (x : Int)]) ∧ w' = w := by
  refine (refTake_calls a m c l k kk w hm hkk hl hk hb).mono fun e w' ⟨h1, h2⟩ => ⟨?_, h2⟩
  rw [h1]
  obtain ⟨t1, t2⟩ := takeE_err ht
  simp [takeV, t1, t2]
end
end Go.Proofs.YtagncghpfdjkmaaGreatDoor
end
/- Member: there and back, in plain terms. -/
section
namespace Go.Proofs.YtagncghpfdjkmaaGreatDoor

theorem nums_at : ∀ (xs : List Int) {l a b : List Nat} {k : Nat}, l = a ++ (xs.map Int.toNat ++ b) → k = a.length → (∀ x ∈ xs, 0 ≤ x ∧ x ≤ 100) → numsE l xs.length k = .ok (xs, k + xs.length)
  | [], l, a, b, k, _, _, _ => rfl
  | x :: r, l, a, b, k, hl, hk, hx => by
    obtain ⟨h0, h1⟩ := hx x List.mem_cons_self
    have hn : numB x.toNat = [x.toNat] := numB_small (by omega)
    have ht : takeE l k = .ok (x.toNat, k + 1) := by
      have := takeE_at (l := l) (a := a) (b := r.map Int.toNat ++ b) (k := k) (n := x.toNat) (by rw [hl, hn]; simp) hk (by omega)
      rwa [hn] at this
    have ih := nums_at r (l := l) (a := a ++ [x.toNat]) (b := b) (k := k + 1) (by rw [hl]; simp) (by rw [hk]; simp) (fun y hy => hx y (List.mem_cons_of_mem _ hy))
    rw [List.length_cons, numsE, ht]
    simp only
    rw [ih]
    simp only [Except.ok.injEq, Prod.mk.injEq, List.cons.injEq, and_true]
    omega
theorem list_at (xs : List Int) {l a b : List Nat} {k : Nat} (hl : l = a ++ (listB xs ++ b)) (hk : k = a.length) (hx : ∀ x ∈ xs, 0 ≤ x ∧ x ≤ 100) (h9 : xs.length ≤ 9) : listE l k = .ok (xs, k + 1 + xs.length) := by
  have hn : numB xs.length = [xs.length] := numB_small (by omega)
  have ht : takeE l k = .ok (xs.length, k + 1) := by
    have := takeE_at (l := l) (a := a) (b := xs.map Int.toNat ++ b) (k := k) (n := xs.length) (by rw [hl, hn]; simp [listB]) hk (by omega)
    rwa [hn] at this
  rw [listE, ht]
  simp only
  rw [if_neg (by omega)]
  exact nums_at xs (a := a ++ [xs.length]) (b := b) (by rw [hl]; simp [listB]) (by rw [hk]; simp) hx
theorem right_in {v l : List Int} (h : rightM v l = true) : (∀ x ∈ v, 0 ≤ x ∧ x ≤ 100) ∧ (∀ x ∈ l, 0 ≤ x ∧ x ≤ 100) := by
  obtain ⟨h1, h2, _⟩ := right_parts h
  exact ⟨fun x hx => by have := rise_in v 0 (by omega) h1 x hx; omega, fun x hx => by have := rise_in l 0 (by omega) h2 x hx; omega⟩
theorem get_at {v l : List Int} (h : rightM v l = true) : getE (listB v ++ listB l) = .ok (v, l) := by
  obtain ⟨_, _, v9, l9, _⟩ := right_parts h
  obtain ⟨iv, il⟩ := right_in h
  have e1 := list_at v (l := listB v ++ listB l) (a := []) (b := listB l) (k := 0) (by simp) rfl iv v9
  have e2 := list_at l (l := listB v ++ listB l) (a := listB v) (b := []) (k := 0 + 1 + v.length) (by simp) (by simp [listB]; omega) il l9
  rw [getE, e1]
  simp only
  rw [e2]
  simp only
  rw [if_pos (by simp [listB]; omega), h]
  rfl
def flatB (xs : List Int) : List Nat := xs.flatMap fun x => numB x.toNat
theorem nums_back {l : List Nat} (hl : ∀ c ∈ l, c < 256) : ∀ {c k : Nat} {xs : List Int} {q : Nat}, numsE l c k = .ok (xs, q) → l.drop k = flatB xs ++ l.drop q
  | 0, k, xs, q, h => by
    simp only [numsE, Except.ok.injEq, Prod.mk.injEq] at h
    rw [← h.1, ← h.2]
    rfl
  | c + 1, k, xs, q, h => by
    rw [numsE] at h
    cases ht : takeE l k with
    | error x => rw [ht] at h; cases h
    | ok r =>
      obtain ⟨n, k2⟩ := r
      rw [ht] at h
      simp only at h
      cases hn : numsE l c k2 with
      | error x => rw [hn] at h; cases h
      | ok s =>
        obtain ⟨s, k3⟩ := s
        rw [hn] at h
        simp only [Except.ok.injEq, Prod.mk.injEq] at h
        obtain ⟨rfl, rfl⟩ := h
        rw [(takeE_back hl ht).1, nums_back hl hn]
        simp [flatB]
theorem list_back {l : List Nat} (hl : ∀ c ∈ l, c < 256) {k : Nat} {xs : List Int} {q : Nat} (h : listE l k = .ok (xs, q)) : l.drop k = numB xs.length ++ (flatB xs ++ l.drop q) ∧ xs.length ≤ 9 := by
  rw [listE] at h
  cases ht : takeE l k with
  | error x => rw [ht] at h; cases h
  | ok r =>
    obtain ⟨n, k2⟩ := r
    rw [ht] at h
    simp only at h
    by_cases h9 : 9 < n
    · rw [if_pos h9] at h; cases h
    · rw [if_neg h9] at h
      rw [(takeE_back hl ht).1, nums_back hl h, nums_len_eq h]
      exact ⟨rfl, by omega⟩
theorem flat_small {xs : List Int} (h : ∀ x ∈ xs, 0 ≤ x ∧ x ≤ 100) : flatB xs = xs.map Int.toNat := by
  induction xs with
  | nil => rfl
  | cons x r ih =>
    have hx := h x List.mem_cons_self
    have ih' := ih (fun y hy => h y (List.mem_cons_of_mem _ hy))
    unfold flatB at *
    rw [List.flatMap_cons, ih', numB_small (by omega)]
    rfl
theorem get_back {b : List Nat} (hb : ∀ c ∈ b, c < 256) {v l : List Int} (h : getE b = .ok (v, l)) : rightM v l = true ∧ listB v ++ listB l = b := by
  rw [getE] at h
  cases h1 : listE b 0 with
  | error x => rw [h1] at h; cases h
  | ok r =>
    obtain ⟨v', k⟩ := r
    rw [h1] at h
    simp only at h
    cases h2 : listE b k with
    | error x => rw [h2] at h; cases h
    | ok s =>
      obtain ⟨l', q⟩ := s
      rw [h2] at h
      simp only at h
      by_cases hq : q = b.length
      · rw [if_pos hq] at h
        cases hr : rightM v' l' with
        | false => rw [hr] at h; cases h
        | true =>
          rw [hr] at h
          simp only [if_true, Except.ok.injEq, Prod.mk.injEq] at h
          obtain ⟨rfl, rfl⟩ := h
          refine ⟨hr, ?_⟩
          obtain ⟨e1, n1⟩ := list_back hb h1
          obtain ⟨e2, n2⟩ := list_back hb h2
          obtain ⟨iv, il⟩ := right_in hr
          rw [List.drop_zero, e2, hq, List.drop_length, List.append_nil, flat_small iv, flat_small il, numB_small (by omega), numB_small (by omega)] at e1
          rw [e1]
          simp [listB]
      · rw [if_neg hq] at h; cases h
end Go.Proofs.YtagncghpfdjkmaaGreatDoor
end
/- Plain: a frame one byte of whose sum or of what it holds is another one is known by its sum. -/
section
namespace Go.Proofs.YtagncghpfdjkmaaGreatDoor

/-- What Next answers at the beginning of bytes that open as a frame does. -/
theorem nextE_parts (n : Nat) (s4 l rest : List Nat) (hn : n ≤ 65536) (h4 : s4.length = 4) (hl : l.length = n) :
    nextE (word4 n ++ (s4 ++ (l ++ rest))) 0 = if Crc.ext (Crc.ext 0 (word4 n)) l = num4 (s4 ++ (l ++ rest)) then 0 else 5 := by
  have d4 : (word4 n ++ (s4 ++ (l ++ rest))).drop 4 = s4 ++ (l ++ rest) := by
    conv => lhs; rw [← word4_length n]
    rw [List.drop_left]
  have d8 : (word4 n ++ (s4 ++ (l ++ rest))).drop 8 = l ++ rest := by
    rw [show 8 = 4 + 4 from rfl, ← List.drop_drop, d4]
    conv => lhs; rw [← h4]
    rw [List.drop_left]
  have t4 : (word4 n ++ (s4 ++ (l ++ rest))).take 4 = word4 n := by
    conv => lhs; rw [← word4_length n]
    rw [List.take_left]
  have hlen : (word4 n ++ (s4 ++ (l ++ rest))).length = 8 + n + rest.length := by
    simp only [List.length_append, word4_length, h4, hl]; omega
  have ht : (l ++ rest).take n = l := by rw [← hl, List.take_left]
  unfold nextE
  simp only [Nat.zero_add, List.drop_zero]
  rw [num4_word4, t4, d8, d4, ht, hlen, if_neg (by omega), if_neg (by omega), if_neg (by omega)]

end Go.Proofs.YtagncghpfdjkmaaGreatDoor
end
