/- The contracts of the document's answers of layer 2: Number, TakeNumber. -/
import Derived.Test.YtpkpnedcecjlbaaGreatDoorB41
import Derived.Test.YtpkpnedcecjlbaaGreatDoorB04
import Derived.Test.YtpkpnedcecjlbaaGreatDoorB11
import Derived.Deep.QuietTactic
import Derived.BigQuiet
section
namespace Go.Proofs.YtpkpnedcecjlbaaGreatDoor
open Go.ChangeShapes Go.WideShapes Go.ChangeAt Go.RowKit

theorem refTake_arg (a : Option Addr) (m c : Nat) (l : List Nat) (k : Int) (w : World) (hm : l.length = m) (h : ¬ (0 ≤ k ∧ k ≤ (l.length : Int))) :
    Calls Tryz.prog 73 #[.slice a m c, .int .i64 k] w fun e w' => e = .returned (.tuple #[.int .i64 0, .int .i64 0, .int .i64 2]) ∧ w' = w := by
  subst hm
  by_cases h0 : 0 ≤ k
  · have h1 : ¬ k ≤ (l.length : Int) := fun h1 => h ⟨h0, h1⟩
    clear h
    go_enter Tryz.func73, Tryz.ntmps73
    go_wp2
    go_ret3
    exact ⟨rfl, rfl⟩
  · clear h
    go_enter Tryz.func73, Tryz.ntmps73
    go_wp2
    go_ret3
    exact ⟨rfl, rfl⟩
/-- What TakeNumber answers. -/
def takeV (l : List Nat) (k : Nat) : Value :=
  if (takeN l k).1 = 0 then .tuple #[.int .i64 ((takeN l k).2.1 : Int), .int .i64 ((takeN l k).2.2 : Int), .int .i64 0] else .tuple #[.int .i64 0, .int .i64 0, .int .i64 ((takeN l k).1 : Int)]
set_option maxRecDepth 20000 in
set_option maxHeartbeats 1000000 in
theorem refTake_calls (a : Option Addr) (M c : Nat) (l : List Nat) (k : Nat) (kk : Int) (w : World) (hM : l.length = M) (hkk : kk = (k : Int)) (hl : l.length ≤ 140737488355328) (hk : k ≤ l.length) (hb : BytesAt w a l) :
    Calls Tryz.prog 73 #[.slice a M c, .int .i64 kk] w fun e w' => e = .returned (takeV l k) ∧ w' = w := by
  subst hM hkk
  have HB := hide hb
  clear hb
  have hk0 := hk
  go_enter Tryz.func73, Tryz.ntmps73
  go_wp2
  clear hk
  go_loop [7, 8, 9] (fun x u i => ∃ (m s : Nat), s ≤ 6 ∧ i = .int .i64 (s : Int) ∧ u = .int .i64 ((128 ^ s : Nat) : Int) ∧ x = .int .i64 (m : Int) ∧ m < 128 ^ s ∧ Hid (takeF l (6 - s) s m (k + s) = takeN l k)) (fun _ _ i => 6 - (intOf i).toNat)
  case atStart => exact ⟨0, 0, by omega, rfl, rfl, rfl, by decide, rfl⟩
  case round =>
    obtain ⟨m, s, hs, rfl, rfl, rfl, hm, heq⟩ := hrel
    by_cases hk : k + s < l.length
    · obtain ⟨b, off, rfl, hc⟩ := (unhide HB).cell (k + s) hk
      have hx := getD_lt (unhide HB).lt (k + s)
      generalize hxx : l.getD (k + s) 0 = x at *
      have HX := hide hxx
      clear hxx
      rcases (by omega : s = 0 ∨ s = 1 ∨ s = 2 ∨ s = 3 ∨ s = 4 ∨ s = 5 ∨ s = 6) with rfl | rfl | rfl | rfl | rfl | rfl | rfl
      · obtain ⟨n, hn⟩ : ∃ n, n = m + x % 128 * 128 ^ 0 := ⟨_, rfl⟩
        have hA : (m : Int) + ((x : Int) % 128) = (n : Int) := by rw [hn]; simp only [Nat.reducePow]; omega
        have hm' : m < 1 := hm
        simp only [Nat.add_zero] at hc
        have hlt : n < 128 := by rw [hn]; simp only [Nat.reducePow]; omega
        have HN := hide hn
        clear hn hm
        by_cases h128 : 128 ≤ x
        · have ht := hide ((takeF_more 5 0 m (unhide HX) hk h128 (by decide)).symm.trans (unhide heq))
          rw [← unhide HN] at ht
          go_wp2
          exact ⟨⟨n, 1, by omega, rfl, rfl, rfl, by simp only [Nat.reducePow]; exact hlt, by rw [show k + 1 = k + 0 + 1 by omega]; exact unhide ht⟩, by simp [intOf]⟩
        · have hxx : x % 128 = x := by omega
          rw [hxx] at HN
          by_cases hb : 1099511627776 < n
          · omega
          · have ht := hide ((takeF_ok 5 0 m (unhide HX) hk h128 (fun h => absurd h.2 (by decide)) (by rw [← unhide HN]; exact hb)).symm.trans (unhide heq))
            rw [← unhide HN] at ht
            go_wp2
            all_goals (go_ret3; exact ⟨by rw [takeV, ← unhide ht]; rfl, rfl⟩)
      · obtain ⟨n, hn⟩ : ∃ n, n = m + x % 128 * 128 ^ 1 := ⟨_, rfl⟩
        have hA : (m : Int) + ((x : Int) % 128 * 128) = (n : Int) := by rw [hn]; simp only [Nat.reducePow]; omega
        have hm' : m < 128 := hm
        have hlt : n < 16384 := by rw [hn]; simp only [Nat.reducePow]; omega
        have HN := hide hn
        clear hn hm
        by_cases h128 : 128 ≤ x
        · have ht := hide ((takeF_more 4 1 m (unhide HX) hk h128 (by decide)).symm.trans (unhide heq))
          rw [← unhide HN] at ht
          go_wp2
          exact ⟨⟨n, 2, by omega, rfl, rfl, rfl, by simp only [Nat.reducePow]; exact hlt, by rw [show k + 2 = k + 1 + 1 by omega]; exact unhide ht⟩, by simp [intOf]⟩
        · have hxx : x % 128 = x := by omega
          rw [hxx] at HN
          by_cases h0 : x = 0
          · have ht := hide ((takeF_form 4 1 m (unhide HX) hk h0 (by decide)).symm.trans (unhide heq))
            go_wp2
            go_ret3
            exact ⟨by rw [takeV, ← unhide ht]; rfl, rfl⟩
          · by_cases hb : 1099511627776 < n
            · omega
            · have ht := hide ((takeF_ok 4 1 m (unhide HX) hk h128 (fun h => h0 h.1) (by rw [← unhide HN]; exact hb)).symm.trans (unhide heq))
              rw [← unhide HN] at ht
              go_wp2
              all_goals (go_ret3; exact ⟨by rw [takeV, ← unhide ht]; rfl, rfl⟩)
      · obtain ⟨n, hn⟩ : ∃ n, n = m + x % 128 * 128 ^ 2 := ⟨_, rfl⟩
        have hA : (m : Int) + ((x : Int) % 128 * 16384) = (n : Int) := by rw [hn]; simp only [Nat.reducePow]; omega
        have hm' : m < 16384 := hm
        have hlt : n < 2097152 := by rw [hn]; simp only [Nat.reducePow]; omega
        have HN := hide hn
        clear hn hm
        by_cases h128 : 128 ≤ x
        · have ht := hide ((takeF_more 3 2 m (unhide HX) hk h128 (by decide)).symm.trans (unhide heq))
          rw [← unhide HN] at ht
          go_wp2
          exact ⟨⟨n, 3, by omega, rfl, rfl, rfl, by simp only [Nat.reducePow]; exact hlt, by rw [show k + 3 = k + 2 + 1 by omega]; exact unhide ht⟩, by simp [intOf]⟩
        · have hxx : x % 128 = x := by omega
          rw [hxx] at HN
          by_cases h0 : x = 0
          · have ht := hide ((takeF_form 3 2 m (unhide HX) hk h0 (by decide)).symm.trans (unhide heq))
            go_wp2
            go_ret3
            exact ⟨by rw [takeV, ← unhide ht]; rfl, rfl⟩
          · by_cases hb : 1099511627776 < n
            · omega
            · have ht := hide ((takeF_ok 3 2 m (unhide HX) hk h128 (fun h => h0 h.1) (by rw [← unhide HN]; exact hb)).symm.trans (unhide heq))
              rw [← unhide HN] at ht
              go_wp2
              all_goals (go_ret3; exact ⟨by rw [takeV, ← unhide ht]; rfl, rfl⟩)
      · obtain ⟨n, hn⟩ : ∃ n, n = m + x % 128 * 128 ^ 3 := ⟨_, rfl⟩
        have hA : (m : Int) + ((x : Int) % 128 * 2097152) = (n : Int) := by rw [hn]; simp only [Nat.reducePow]; omega
        have hm' : m < 2097152 := hm
        have hlt : n < 268435456 := by rw [hn]; simp only [Nat.reducePow]; omega
        have HN := hide hn
        clear hn hm
        by_cases h128 : 128 ≤ x
        · have ht := hide ((takeF_more 2 3 m (unhide HX) hk h128 (by decide)).symm.trans (unhide heq))
          rw [← unhide HN] at ht
          go_wp2
          exact ⟨⟨n, 4, by omega, rfl, rfl, rfl, by simp only [Nat.reducePow]; exact hlt, by rw [show k + 4 = k + 3 + 1 by omega]; exact unhide ht⟩, by simp [intOf]⟩
        · have hxx : x % 128 = x := by omega
          rw [hxx] at HN
          by_cases h0 : x = 0
          · have ht := hide ((takeF_form 2 3 m (unhide HX) hk h0 (by decide)).symm.trans (unhide heq))
            go_wp2
            go_ret3
            exact ⟨by rw [takeV, ← unhide ht]; rfl, rfl⟩
          · by_cases hb : 1099511627776 < n
            · omega
            · have ht := hide ((takeF_ok 2 3 m (unhide HX) hk h128 (fun h => h0 h.1) (by rw [← unhide HN]; exact hb)).symm.trans (unhide heq))
              rw [← unhide HN] at ht
              go_wp2
              all_goals (go_ret3; exact ⟨by rw [takeV, ← unhide ht]; rfl, rfl⟩)
      · obtain ⟨n, hn⟩ : ∃ n, n = m + x % 128 * 128 ^ 4 := ⟨_, rfl⟩
        have hA : (m : Int) + ((x : Int) % 128 * 268435456) = (n : Int) := by rw [hn]; simp only [Nat.reducePow]; omega
        have hm' : m < 268435456 := hm
        have hlt : n < 34359738368 := by rw [hn]; simp only [Nat.reducePow]; omega
        have HN := hide hn
        clear hn hm
        by_cases h128 : 128 ≤ x
        · have ht := hide ((takeF_more 1 4 m (unhide HX) hk h128 (by decide)).symm.trans (unhide heq))
          rw [← unhide HN] at ht
          go_wp2
          exact ⟨⟨n, 5, by omega, rfl, rfl, rfl, by simp only [Nat.reducePow]; exact hlt, by rw [show k + 5 = k + 4 + 1 by omega]; exact unhide ht⟩, by simp [intOf]⟩
        · have hxx : x % 128 = x := by omega
          rw [hxx] at HN
          by_cases h0 : x = 0
          · have ht := hide ((takeF_form 1 4 m (unhide HX) hk h0 (by decide)).symm.trans (unhide heq))
            go_wp2
            go_ret3
            exact ⟨by rw [takeV, ← unhide ht]; rfl, rfl⟩
          · by_cases hb : 1099511627776 < n
            · omega
            · have ht := hide ((takeF_ok 1 4 m (unhide HX) hk h128 (fun h => h0 h.1) (by rw [← unhide HN]; exact hb)).symm.trans (unhide heq))
              rw [← unhide HN] at ht
              go_wp2
              all_goals (go_ret3; exact ⟨by rw [takeV, ← unhide ht]; rfl, rfl⟩)
      · obtain ⟨n, hn⟩ : ∃ n, n = m + x % 128 * 128 ^ 5 := ⟨_, rfl⟩
        have hA : (m : Int) + ((x : Int) % 128 * 34359738368) = (n : Int) := by rw [hn]; simp only [Nat.reducePow]; omega
        have hm' : m < 34359738368 := hm
        have hlt : n < 4398046511104 := by rw [hn]; simp only [Nat.reducePow]; omega
        have HN := hide hn
        clear hn hm
        by_cases h128 : 128 ≤ x
        · have ht := hide ((takeF_last 5 m (unhide HX) hk h128).symm.trans (unhide heq))
          go_wp2
          exact ⟨⟨n, 6, by omega, rfl, rfl, rfl, by simp only [Nat.reducePow]; exact hlt, by rw [← unhide ht]; rfl⟩, by simp [intOf]⟩
        · have hxx : x % 128 = x := by omega
          rw [hxx] at HN
          by_cases h0 : x = 0
          · have ht := hide ((takeF_form 0 5 m (unhide HX) hk h0 (by decide)).symm.trans (unhide heq))
            go_wp2
            go_ret3
            exact ⟨by rw [takeV, ← unhide ht]; rfl, rfl⟩
          · by_cases hb : 1099511627776 < n
            · have ht := hide ((takeF_big 0 5 m (unhide HX) hk h128 (fun h => h0 h.1) (by rw [← unhide HN]; exact hb)).symm.trans (unhide heq))
              go_wp2
              go_ret3
              exact ⟨by rw [takeV, ← unhide ht]; rfl, rfl⟩
            · have ht := hide ((takeF_ok 0 5 m (unhide HX) hk h128 (fun h => h0 h.1) (by rw [← unhide HN]; exact hb)).symm.trans (unhide heq))
              rw [← unhide HN] at ht
              go_wp2
              all_goals (go_ret3; exact ⟨by rw [takeV, ← unhide ht]; rfl, rfl⟩)
      · have ht := hide (show (6, 0, k + 6) = takeN l k from unhide heq)
        go_wp2
        go_ret3
        exact ⟨by rw [takeV, ← unhide ht]; rfl, rfl⟩
    · by_cases h6 : s = 6
      · subst h6
        have ht := hide (show (6, 0, k + 6) = takeN l k from unhide heq)
        go_wp2
        go_ret3
        exact ⟨by rw [takeV, ← unhide ht]; rfl, rfl⟩
      · have ht := hide (show (3, 0, k + s) = takeN l k by
          rw [← unhide heq]
          obtain ⟨f, hf⟩ : ∃ f, 6 - s = f + 1 := ⟨5 - s, by omega⟩
          rw [hf, takeF_short _ _ _ hk])
        go_wp2
        go_ret3
        exact ⟨by rw [takeV, ← unhide ht]; rfl, rfl⟩
end Go.Proofs.YtpkpnedcecjlbaaGreatDoor
end
/- The document's TakeNumber, by its two ways. -/
section
namespace Go.Proofs.YtpkpnedcecjlbaaGreatDoor
open Go.ChangeShapes Go.WideShapes Go.ChangeAt Go.RowKit
set_option linter.unusedVariables false
theorem takeEW_ok {l : List Nat} {k n k2 : Nat} (h : takeE l k = .ok (n, k2)) : takeN l k = (0, n, k2) := by
  unfold takeE at h
  split at h
  · rename_i h0
    simp only [Except.ok.injEq, Prod.mk.injEq] at h
    exact Prod.ext h0 (Prod.ext h.1 h.2)
  · cases h
theorem takeEW_err {l : List Nat} {k x : Nat} (h : takeE l k = .error x) : (takeN l k).1 = x ∧ x ≠ 0 := by
  unfold takeE at h
  split at h
  · cases h
  · rename_i h0
    simp only [Except.error.injEq] at h
    exact ⟨h, fun e => h0 (h.trans e)⟩
section
variable {w : World} {a : Option Addr} {c : Nat} {l : List Nat}
theorem refTakeW_ok (m : Nat) (k n k2 : Nat) (kk : Int) (hm : l.length = m) (hkk : kk = (k : Int)) (hl : l.length ≤ 140737488355328) (hk : k ≤ l.length) (hb : BytesAt w a l) (ht : takeE l k = .ok (n, k2)) :
    Calls Tryz.prog 73 #[.slice a m c, .int .i64 kk] w fun e w' => e = .returned (.tuple #[.int .i64 (n : Int), .int .i64 (k2 : Int), .int .i64 0]) ∧ w' = w := by
  refine (refTake_calls a m c l k kk w hm hkk hl hk hb).mono fun e w' ⟨h1, h2⟩ => ⟨?_, h2⟩
  rw [h1]
  have := takeEW_ok ht
  simp [takeV, this]
theorem refTakeW_bad (m : Nat) (k x : Nat) (kk : Int) (hm : l.length = m) (hkk : kk = (k : Int)) (hl : l.length ≤ 140737488355328) (hk : k ≤ l.length) (hb : BytesAt w a l) (ht : takeE l k = .error x) :
    Calls Tryz.prog 73 #[.slice a m c, .int .i64 kk] w fun e w' => e = .returned (.tuple #[.int .i64 0, .int .i64 0, .int .i64 (x : Int)]) ∧ w' = w := by
  refine (refTake_calls a m c l k kk w hm hkk hl hk hb).mono fun e w' ⟨h1, h2⟩ => ⟨?_, h2⟩
  rw [h1]
  obtain ⟨t1, t2⟩ := takeEW_err ht
  simp [takeV, t1, t2]
end
end Go.Proofs.YtpkpnedcecjlbaaGreatDoor
end
/- Conf: the document's scan: num, row, text. -/
section
namespace Go.Proofs.YtpkpnedcecjlbaaGreatDoor
open Go.ChangeShapes Go.WideShapes Go.ChangeAt Go.RowKit
set_option linter.unusedVariables false

/-- A scan at block R: its bytes, its place, its error. -/
structure ZR (R : Nat) (w : World) (p : Option Addr) (c : Nat) (h : List Nat) (k e : Nat) : Prop where
  row : w.heap[R]? = some (.cells #[.slice p h.length c, .int .i64 (k : Int), .int .i64 (e : Int)] 80 (0, 0))
  by_ : BytesAt w p h
  ne : 0 < h.length → ∀ ad, p = some ad → ad.block ≠ R
  kl : k ≤ h.length
  hl : h.length ≤ 140737488355328
  hc : h.length ≤ c
  hm : c ≤ maxLen
  hz : p = none → c = 0
def numZ (h : List Nat) (k e m : Nat) : Nat × Nat × Nat := if e ≠ 0 then (0, k, e) else match takeE h k with
  | .ok (n, k2) => if m < n then (0, k, 6) else (n, k2, 0)
  | .error x => (0, k, x)
def rowZ (h : List Nat) (k e n : Nat) : List Nat × Nat × Nat := if e ≠ 0 then ([], k, e) else if h.length - k < n then ([], k, 3) else ((h.drop k).take n, k + n, 0)
def txtZ (h : List Nat) (k e : Nat) : List Nat × Nat × Nat := rowZ h (numZ h k e 128).2.1 (numZ h k e 128).2.2 (numZ h k e 128).1
section
variable {R : Nat} {w w' : World} {p : Option Addr} {c : Nat} {h : List Nat} {k e : Nat}
theorem ZR.later (z : ZR R w p c h k e) (u : Below w.heap.size w w') : ZR R w' p c h k e := ⟨later_block u z.row, z.by_.later u, z.ne, z.kl, z.hl, z.hc, z.hm, z.hz⟩
theorem ZR.setE (z : ZR R w p c h k e) (x : Nat) : ZR R (w.setCell ⟨R, 2, none⟩ (.int .i64 (x : Int))) p c h k x :=
  ⟨heap_setCell_same w R 2 _ _ _ z.row, z.by_.far0 (grown_set w R 2 _) (fun h0 b off e => z.ne h0 _ e), z.ne, z.kl, z.hl, z.hc, z.hm, z.hz⟩
theorem ZR.setK (z : ZR R w p c h k e) (x : Nat) (hx : x ≤ h.length) : ZR R (w.setCell ⟨R, 1, none⟩ (.int .i64 (x : Int))) p c h x e :=
  ⟨heap_setCell_same w R 1 _ _ _ z.row, z.by_.far0 (grown_set w R 1 _) (fun h0 b off e => z.ne h0 _ e), z.ne, hx, z.hl, z.hc, z.hm, z.hz⟩
theorem ZR.froz (z : ZR R w p c h k e) (i : Nat) : w.frozen? ⟨R, i, none⟩ = false := by simp [World.frozen?, z.row]
theorem ZR.c0 (z : ZR R w p c h k e) : w.cell? ⟨R, 0, none⟩ = some (.slice p h.length c) := box_cell z.row 0 _ rfl
theorem ZR.c1 (z : ZR R w p c h k e) : w.cell? ⟨R, 1, none⟩ = some (.int .i64 (k : Int)) := box_cell z.row 1 _ rfl
theorem ZR.c2 (z : ZR R w p c h k e) : w.cell? ⟨R, 2, none⟩ = some (.int .i64 (e : Int)) := box_cell z.row 2 _ rfl
theorem ZR.lt (z : ZR R w p c h k e) : R < w.heap.size := (Array.getElem?_eq_some_iff.1 z.row).1
def NEndZ (R : Nat) (w : World) (p : Option Addr) (c : Nat) (h : List Nat) (r : Nat × Nat × Nat) (en : Ending) (w' : World) : Prop := en = .returned (.int .i64 (r.1 : Int)) ∧ ZR R w' p c h r.2.1 r.2.2 ∧ w.grownBy w' (some R)
set_option maxRecDepth 20000 in
set_option maxHeartbeats 4000000 in
theorem znum_calls (z : ZR R w p c h k e) (m : Nat) (hm : m ≤ 1099511627776) : Calls Tryz.prog 45 #[.pointer (some ⟨R, 0, none⟩), .int .i64 (m : Int)] w (NEndZ R w p c h (numZ h k e m)) := by
  by_cases he : e = 0
  · subst he
    have d0 : w.drew.cell? ⟨R, 0, none⟩ = some (.slice p h.length c) := z.c0
    have d1 : w.drew.cell? ⟨R, 1, none⟩ = some (.int .i64 (k : Int)) := z.c1
    have c2 : w.cell? ⟨R, 2, none⟩ = some (.int .i64 0) := z.c2
    have Z1 := hide (z.later ((Below.refl _ _).drew))
    have GD := hide (grown_ofK ((Below.refl w.heap.size w).drew) (some R))
    cases ht : takeE h k with
    | ok q =>
      obtain ⟨n, k2⟩ := q
      have TC := hide (refTakeW_ok (w := w.drew) (a := p) (c := c) h.length k n k2 (k : Int) rfl rfl z.hl z.kl (z.by_.later ((Below.refl _ _).drew)) ht)
      have hk2 := (takeE_leb ht z.by_.lt).1
      by_cases hn : m < n
      · as_aux_lemma =>
        have i1 : (m : Int) < (n : Int) := by omega
        have FE := hide (show NEndZ R w p c h (numZ h k 0 m) (.returned (.int .i64 0)) (w.drew.setCell ⟨R, 2, none⟩ (.int .i64 6)) from by
          have e0 : numZ h k 0 m = (0, k, 6) := by simp [numZ, ht, hn]
          rw [e0]
          exact ⟨rfl, (unhide Z1).setE 6, grown_trans (unhide GD) (grown_set w.drew R 2 _)⟩)
        have f2 := (unhide Z1).froz 2
        have g2 := (unhide Z1).c2
        rw [show ((0 : Nat) : Int) = 0 from rfl] at g2
        clear z ht hn hk2 Z1 GD
        go_enter Tryz.func45, Tryz.ntmps45
        go_wp2_with fail
        refine wp_region_held_drew (S := fun w' => w'.cell? ⟨R, 0, none⟩ = some (.slice p h.length c) ∧ w'.cell? ⟨R, 1, none⟩ = some (.int .i64 (k : Int))) (by kernel_rfl) ?_ (fun hHeld => ?_)
        · try dsimp only
          exact ⟨d0, d1⟩
        refine hT 0 ?_
        refine hT 1 ?_
        refine hT 2 ?_
        refine hT 3 ?_
        refine hT 4 ?_
        refine hT 5 ?_
        refine hT 6 ?_
        refine hT 7 ?_
        refine hO 8 (fun K hK => ?_)
        go_simp
        first
          | (go_at_call 73
             refine (unhide TC).mono ?_
             rintro e V1 ⟨rfl, rfl⟩)
        go_wp2_with fail
        refine hK.out _ _ ?_ (fun hHeld => ?_)
        · try dsimp only
          exact ⟨d0, d1⟩
        clear hK K
        refine hP ?_
        refine hT 9 ?_
        refine hT 10 ?_
        refine hT 11 ?_
        refine hT 12 ?_
        refine hT 13 ?_
        refine hT 14 ?_
        refine hT 15 ?_
        refine wpAnyH_done (by kernel_rfl) ?_ _
        go_wp2
        go_ret
        exact unhide FE
      · as_aux_lemma =>
        have i1 : ¬ (m : Int) < (n : Int) := by omega
        have FE := hide (show NEndZ R w p c h (numZ h k 0 m) (.returned (.int .i64 (n : Int))) (w.drew.setCell ⟨R, 1, none⟩ (.int .i64 (k2 : Int))) from by
          have e0 : numZ h k 0 m = (n, k2, 0) := by simp [numZ, ht, hn]
          rw [e0]
          exact ⟨rfl, (unhide Z1).setK k2 hk2, grown_trans (unhide GD) (grown_set w.drew R 1 _)⟩)
        have f1 := (unhide Z1).froz 1
        clear z ht hn hk2 Z1 GD
        go_enter Tryz.func45, Tryz.ntmps45
        go_wp2_with fail
        refine wp_region_held_drew (S := fun w' => w'.cell? ⟨R, 0, none⟩ = some (.slice p h.length c) ∧ w'.cell? ⟨R, 1, none⟩ = some (.int .i64 (k : Int))) (by kernel_rfl) ?_ (fun hHeld => ?_)
        · try dsimp only
          exact ⟨d0, d1⟩
        refine hT 0 ?_
        refine hT 1 ?_
        refine hT 2 ?_
        refine hT 3 ?_
        refine hT 4 ?_
        refine hT 5 ?_
        refine hT 6 ?_
        refine hT 7 ?_
        refine hO 8 (fun K hK => ?_)
        go_simp
        first
          | (go_at_call 73
             refine (unhide TC).mono ?_
             rintro e V1 ⟨rfl, rfl⟩)
        go_wp2_with fail
        refine hK.out _ _ ?_ (fun hHeld => ?_)
        · try dsimp only
          exact ⟨d0, d1⟩
        clear hK K
        refine hP ?_
        refine hT 9 ?_
        refine hT 10 ?_
        refine hT 11 ?_
        refine hT 12 ?_
        refine hT 13 ?_
        refine hT 14 ?_
        refine hT 15 ?_
        refine wpAnyH_done (by kernel_rfl) ?_ _
        go_wp2
        go_ret
        exact unhide FE
    | error x =>
      as_aux_lemma =>
      have hx := takeE_pos ht
      have TC := hide (refTakeW_bad (w := w.drew) (a := p) (c := c) h.length k x (k : Int) rfl rfl z.hl z.kl (z.by_.later ((Below.refl _ _).drew)) ht)
      have FE := hide (show NEndZ R w p c h (numZ h k 0 m) (.returned (.int .i64 0)) (w.drew.setCell ⟨R, 2, none⟩ (.int .i64 (x : Int))) from by
        have e0 : numZ h k 0 m = (0, k, x) := by simp [numZ, ht]
        rw [e0]
        exact ⟨rfl, (unhide Z1).setE x, grown_trans (unhide GD) (grown_set w.drew R 2 _)⟩)
      have f2 := (unhide Z1).froz 2
      have g2 := (unhide Z1).c2
      rw [show ((0 : Nat) : Int) = 0 from rfl] at g2
      have x1 : ¬ (x : Int) = 0 := by omega
      have x2 : ((x : Int) == 0) = false := by simp [hx]
      have x3 : ((x : Int) != 0) = true := by simp [hx]
      clear z ht hx Z1 GD
      generalize (x : Int) = xi at *
      go_enter Tryz.func45, Tryz.ntmps45
      go_wp2_with fail
      refine wp_region_held_drew (S := fun w' => w'.cell? ⟨R, 0, none⟩ = some (.slice p h.length c) ∧ w'.cell? ⟨R, 1, none⟩ = some (.int .i64 (k : Int))) (by kernel_rfl) ?_ (fun hHeld => ?_)
      · try dsimp only
        exact ⟨d0, d1⟩
      refine hT 0 ?_
      refine hT 1 ?_
      refine hT 2 ?_
      refine hT 3 ?_
      refine hT 4 ?_
      refine hT 5 ?_
      refine hT 6 ?_
      refine hT 7 ?_
      refine hO 8 (fun K hK => ?_)
      go_simp
      first
        | (go_at_call 73
           refine (unhide TC).mono ?_
           rintro e V1 ⟨rfl, rfl⟩)
      go_wp2_with fail
      refine hK.out _ _ ?_ (fun hHeld => ?_)
      · try dsimp only
        exact ⟨d0, d1⟩
      clear hK K
      refine hP ?_
      refine hT 9 ?_
      refine hT 10 ?_
      refine hT 11 ?_
      refine hT 12 ?_
      refine hT 13 ?_
      refine hT 14 ?_
      refine hT 15 ?_
      refine wpAnyH_done (by kernel_rfl) ?_ _
      go_wp2
      go_ret
      exact unhide FE
  · as_aux_lemma =>
    have c2 := z.c2
    have e1 : ¬ (e : Int) = 0 := by omega
    have e2 : ((e : Int) == 0) = false := by simp [he]
    have FE := hide (show NEndZ R w p c h (numZ h k e m) (.returned (.int .i64 0)) w from by
      have e0 : numZ h k e m = (0, k, e) := by simp [numZ, he]
      rw [e0]
      exact ⟨rfl, z, grown_ofK (Below.refl _ _) _⟩)
    clear z he
    generalize (e : Int) = ei at *
    go_enter Tryz.func45, Tryz.ntmps45
    go_wp2
    go_ret
    exact unhide FE
end
end Go.Proofs.YtpkpnedcecjlbaaGreatDoor
end
/- Conf: the document's scan: row, text. -/
section
namespace Go.Proofs.YtpkpnedcecjlbaaGreatDoor
open Go.ChangeShapes Go.WideShapes Go.ChangeAt Go.RowKit
set_option linter.unusedVariables false

section
variable {R : Nat} {w w' : World} {p : Option Addr} {c : Nat} {h : List Nat} {k e : Nat}
def CEndZ (R : Nat) (w : World) (p : Option Addr) (c : Nat) (h : List Nat) (r : List Nat × Nat × Nat) (en : Ending) (w' : World) : Prop := ∃ sp m cc, en = .returned (.slice sp m cc) ∧ PartK R w' p sp m cc r.1 ∧ ZR R w' p c h r.2.1 r.2.2 ∧ w.grownBy w' (some R)
set_option maxRecDepth 20000 in
set_option maxHeartbeats 4000000 in
theorem zrow_calls (z : ZR R w p c h k e) (n : Nat) (hn : n ≤ 1099511627776) : Calls Tryz.prog 74 #[.pointer (some ⟨R, 0, none⟩), .int .i64 (n : Int)] w (CEndZ R w p c h (rowZ h k e n)) := by
  have hkl := z.kl
  have hhl := z.hl
  by_cases he : e = 0
  · subst he
    have c2 : w.cell? ⟨R, 2, none⟩ = some (.int .i64 0) := z.c2
    have c0 := z.c0
    have c1 := z.c1
    have hwr : IntKind.i64.wrap ((h.length : Int) - (k : Int)) = ((h.length - k : Nat) : Int) := by rw [IntKind.wrap_i64]; omega
    by_cases hs : h.length - k < n
    · as_aux_lemma =>
      have s1 : ((h.length - k : Nat) : Int) < (n : Int) := by omega
      have s2 : decide (((h.length - k : Nat) : Int) < (n : Int)) = true := decide_eq_true s1
      have FF := hide (show ∀ W, Below w.heap.size w W → CEndZ R w p c h (rowZ h k 0 n) (.returned (.slice none 0 0)) (W.setCell ⟨R, 2, none⟩ (.int .i64 3)) ∧ W.frozen? ⟨R, 2, none⟩ = false ∧ W.cell? ⟨R, 2, none⟩ = some (.int .i64 0) from fun W u => by
        have eq : rowZ h k 0 n = ([], k, 3) := by simp [rowZ, hs]
        rw [eq]
        exact ⟨⟨none, 0, 0, rfl, PartK.nil _ _ _, (z.later u).setE 3, grown_trans (grown_ofK u _) (grown_set W R 2 _)⟩, (z.later u).froz 2, (z.later u).c2⟩)
      generalize h.length - k = d at *
      generalize hL : h.length = L at *
      clear z hs
      go_enter Tryz.func74, Tryz.ntmps74
      go_wp2_with fail
      go_quiet (fail)
      obtain ⟨F1, f2, g2⟩ := unhide FF _ (_root_.Go.below_drewN (Below.refl w.heap.size w) nq)
      have F1 := hide F1
      generalize w.drewN nq = W1 at *
      go_wp2
      go_ret
      exact unhide F1
    · as_aux_lemma =>
      have s1 : ¬ ((h.length - k : Nat) : Int) < (n : Int) := by omega
      have s2 : decide (((h.length - k : Nat) : Int) < (n : Int)) = false := decide_eq_false s1
      have hsl : ∀ u, (Instr.slice 26 (.slice p h.length c) (some (.int .i64 (k : Int))) (some (.int .i64 ((k : Int) + (n : Int)))) none).run Tryz.prog u = .ok (.slice (slp p k c) n (c - k)) u := fun u => by
        have := run_slice_lh8 p h.length c k (k + n) (by omega) (by have := z.hc; omega) u
        rw [Nat.add_sub_cancel_left] at this
        rw [← this, Int.natCast_add]
      have hadd : IntKind.i64.wrap ((k : Int) + (n : Int)) = (k : Int) + (n : Int) := by rw [IntKind.wrap_i64]; omega
      have FF := hide (show ∀ W, Below w.heap.size w W → CEndZ R w p c h (rowZ h k 0 n) (.returned (.slice (slp p k c) n (c - k))) (W.setCell ⟨R, 1, none⟩ (.int .i64 ((k : Int) + (n : Int)))) from fun W u => by
        have eq : rowZ h k 0 n = ((h.drop k).take n, k + n, 0) := by simp [rowZ, hs]
        have z2 := (z.later u).setK (k + n) (by omega)
        rw [Int.natCast_add] at z2
        rw [eq]
        exact ⟨_, _, _, rfl, ⟨by dsimp only; rw [List.length_take, List.length_drop]; omega, by have := z.hc; omega, by have := z.hm; omega, (z2.by_.drop k c z.hc).take n, fun hq => slp_noneK hq z.hz, slp_ofK⟩, z2, grown_trans (grown_ofK u (some R)) (grown_set W R 1 _)⟩)
      have CL := hide (show ∀ W, Below w.heap.size w W → W.cell? ⟨R, 0, none⟩ = some (.slice p h.length c) ∧ W.cell? ⟨R, 1, none⟩ = some (.int .i64 (k : Int)) ∧ W.frozen? ⟨R, 1, none⟩ = false from fun W u => ⟨(z.later u).c0, (z.later u).c1, (z.later u).froz 1⟩)
      have BT := hide (show ∀ (W : World) (j : Nat), Below w.heap.size w W → Below w.heap.size w (W.drewN j) from fun W j u => u.trans ((_root_.Go.below_drewN (Below.refl W.heap.size W) j).mono u.size))
      generalize hL : h.length = L at *
      generalize L - k = d at *
      clear z hs
      go_enter Tryz.func74, Tryz.ntmps74
      go_wp2_with fail
      go_quiet (fail)
      have U1 := hide (_root_.Go.below_drewN (Below.refl w.heap.size w) nq)
      obtain ⟨b0, b1, b2⟩ := unhide CL _ (unhide U1)
      generalize slp p k c = q at *
      generalize w.drewN nq = W1 at *
      go_wp2_with fail
      go_quiet (fail)
      have U2 := hide (unhide BT W1 nq (unhide U1))
      obtain ⟨a0, a1, a2⟩ := unhide CL _ (unhide U2)
      have F1 := hide (unhide FF _ (unhide U2))
      generalize W1.drewN nq = W2 at *
      go_wp2
      go_ret
      exact unhide F1
  · as_aux_lemma =>
    have c2 := z.c2
    have e1 : ¬ (e : Int) = 0 := by omega
    have e2 : ((e : Int) == 0) = false := by simp [he]
    have FE := hide (show CEndZ R w p c h (rowZ h k e n) (.returned (.slice none 0 0)) w from by
      have e0 : rowZ h k e n = ([], k, e) := by simp [rowZ, he]
      rw [e0]
      exact ⟨none, 0, 0, rfl, PartK.nil _ _ _, z, grown_ofK (Below.refl _ _) _⟩)
    clear z he
    generalize (e : Int) = ei at *
    go_enter Tryz.func74, Tryz.ntmps74
    go_wp2
    go_ret
    exact unhide FE
theorem numZ_le (h : List Nat) (k e m : Nat) : (numZ h k e m).1 ≤ m := by
  unfold numZ
  split
  · simp
  · split
    · split
      · simp
      · dsimp only; omega
    · simp
def TEndZ (R : Nat) (w : World) (p : Option Addr) (c : Nat) (h : List Nat) (r : List Nat × Nat × Nat) (en : Ending) (w' : World) : Prop := en = .returned (.string (strOf r.1)) ∧ ZR R w' p c h r.2.1 r.2.2 ∧ w.grownBy w' (some R)
set_option maxHeartbeats 4000000 in
theorem ztext_calls (z : ZR R w p c h k e) : Calls Tryz.prog 46 #[.pointer (some ⟨R, 0, none⟩)] w (TEndZ R w p c h (txtZ h k e)) := by
  have NC := hide (znum_calls z 128 (by omega))
  unfold NEndZ at NC
  have NL := hide (numZ_le h k e 128)
  have EQ := hide (show txtZ h k e = rowZ h (numZ h k e 128).2.1 (numZ h k e 128).2.2 (numZ h k e 128).1 from rfl)
  generalize numZ h k e 128 = q at *
  obtain ⟨n, k1, e1⟩ := q
  dsimp only at NC EQ NL
  rw [show ((128 : Nat) : Int) = 128 from rfl] at NC
  clear z
  go_enter Tryz.func46, Tryz.ntmps46
  go_wp2_with fail
  go_at_call 45
  refine (unhide NC).mono ?_
  rintro en V1 ⟨rfl, z1, g1⟩
  have TC := hide (zrow_calls z1 n (by have := unhide NL; omega))
  unfold CEndZ at TC
  have G1 := hide g1
  generalize rowZ h k1 e1 n = q2 at *
  obtain ⟨b, k2, e2⟩ := q2
  dsimp only at TC EQ
  clear z1 g1 NC
  go_wp2_with fail
  go_at_call 74
  refine (unhide TC).mono ?_
  rintro en V2 ⟨sp, m, cc, rfl, pt, z2, g2⟩
  have hcv := run_string8 m cc pt.len pt.by_
  have FF := hide (show TEndZ R w p c h (txtZ h k e) (.returned (.string (strOf b))) V2 from by
    rw [unhide EQ]
    exact ⟨rfl, z2, grown_trans (unhide G1) g2⟩)
  clear z2 g2 pt TC EQ
  go_wp2
  go_ret
  exact unhide FF
end
end Go.Proofs.YtpkpnedcecjlbaaGreatDoor
end
