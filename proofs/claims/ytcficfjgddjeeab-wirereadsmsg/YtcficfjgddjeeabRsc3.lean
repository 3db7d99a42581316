/- The document's answers of layer 2: entry of the scan, GetEntry, SameEntry. -/
import Derived.Test.YtcficfjgddjeeabRsc2
import Derived.Test.YtcficfjgddjeeabRgent
import Derived.Test.YtcficfjgddjeeabWent
namespace Go.Proofs.Ytcficfjgddjeeab
open Go.ChangeShapes Go.WideShapes Go.ChangeAt Go.RowKit

theorem numS_bad {l : List Nat} {m k x : Nat} (hx : x ≠ 0) : numS l m k x = (0, k, x) := by rw [numS, if_pos hx]
theorem numS_pos (l : List Nat) (k : Nat) : (∃ y, y ≠ 0 ∧ posE l k = .error y ∧ numS l 1 k 0 = (0, k, y)) ∨ ∃ n k2, posE l k = .ok (n, k2) ∧ numS l 1 k 0 = (n, k2, 0) := by
  cases ht : takeE l k with
  | error y => exact .inl ⟨y, takeE_pos ht, by rw [posE, ht], by simp only [numS, ht]; rfl⟩
  | ok p =>
    obtain ⟨n, k2⟩ := p
    by_cases hn : n = 0
    · exact .inl ⟨4, by decide, by rw [posE, ht]; simp only [if_pos hn], by simp only [numS, ht, if_pos (show n < 1 by omega)]; rfl⟩
    · exact .inr ⟨n, k2, by rw [posE, ht]; simp only [if_neg hn], by simp only [numS, ht, if_neg (show ¬ n < 1 by omega)]; rfl⟩
theorem oneS_one (l : List Nat) (lo hi k : Nat) : (∃ y, y ≠ 0 ∧ oneE l lo hi k = .error y ∧ oneS l lo hi k 0 = (0, k, y)) ∨ ∃ n k2, oneE l lo hi k = .ok (n, k2) ∧ oneS l lo hi k 0 = (n, k2, 0) := by
  cases ht : oneE l lo hi k with
  | error y => exact .inl ⟨y, oneE_pos ht, rfl, by simp only [oneS, ht]; rfl⟩
  | ok p => exact .inr ⟨p.1, p.2, rfl, by simp only [oneS, ht]; rfl⟩
/-- The first three fields of an entry. -/
theorem ent_pre {l : List Nat} {k kd k1 x1 t k2 x2 i k3 x3 : Nat} (h1 : oneS l 1 3 k 0 = (kd, k1, x1)) (h2 : numS l 1 k1 x1 = (t, k2, x2)) (h3 : numS l 1 k2 x2 = (i, k3, x3)) :
    (x3 ≠ 0 ∧ entryE l k = .error x3) ∨ (x3 = 0 ∧ oneE l 1 3 k = .ok (kd, k1) ∧ posE l k1 = .ok (t, k2) ∧ posE l k2 = .ok (i, k3)) := by
  rcases oneS_one l 1 3 k with ⟨y, hy, e1, e2⟩ | ⟨n, k', e1, e2⟩
  · rw [e2] at h1
    simp only [Prod.mk.injEq] at h1
    obtain ⟨rfl, rfl, rfl⟩ := h1
    rw [numS_bad hy] at h2
    simp only [Prod.mk.injEq] at h2
    obtain ⟨rfl, rfl, rfl⟩ := h2
    rw [numS_bad hy] at h3
    simp only [Prod.mk.injEq] at h3
    obtain ⟨rfl, rfl, rfl⟩ := h3
    exact .inl ⟨hy, by rw [entryE, e1]⟩
  · rw [e2] at h1
    simp only [Prod.mk.injEq] at h1
    obtain ⟨rfl, rfl, rfl⟩ := h1
    rcases numS_pos l k' with ⟨y, hy, f1, f2⟩ | ⟨m, k'', f1, f2⟩
    · rw [f2] at h2
      simp only [Prod.mk.injEq] at h2
      obtain ⟨rfl, rfl, rfl⟩ := h2
      rw [numS_bad hy] at h3
      simp only [Prod.mk.injEq] at h3
      obtain ⟨rfl, rfl, rfl⟩ := h3
      exact .inl ⟨hy, by rw [entryE, e1]; simp only [f1]⟩
    · rw [f2] at h2
      simp only [Prod.mk.injEq] at h2
      obtain ⟨rfl, rfl, rfl⟩ := h2
      rcases numS_pos l k'' with ⟨y, hy, g1, g2⟩ | ⟨q, k''', g1, g2⟩
      · rw [g2] at h3
        simp only [Prod.mk.injEq] at h3
        obtain ⟨rfl, rfl, rfl⟩ := h3
        exact .inl ⟨hy, by rw [entryE, e1]; simp only [f1, g1]⟩
      · rw [g2] at h3
        simp only [Prod.mk.injEq] at h3
        obtain ⟨rfl, rfl, rfl⟩ := h3
        exact .inr ⟨rfl, e1, f1, g1⟩
/-- A Noop's end. -/
theorem ent_noop {l : List Nat} {k k1 x1 t k2 x2 i k3 x3 n k4 x4 : Nat} (h1 : oneS l 1 3 k 0 = (1, k1, x1)) (h2 : numS l 1 k1 x1 = (t, k2, x2)) (h3 : numS l 1 k2 x2 = (i, k3, x3)) (h4 : numS l 0 k3 x3 = (n, k4, x4)) :
    (x4 = 0 ∧ 0 < n ∧ entryE l k = .error 4) ∨ (x4 = 0 ∧ ¬ 0 < n ∧ entryE l k = .ok ((1, t, i, []), k4)) ∨ (x4 ≠ 0 ∧ entryE l k = .error x4) := by
  rcases ent_pre h1 h2 h3 with ⟨hx, he⟩ | ⟨rfl, e1, e2, e3⟩
  · rw [numS_bad hx] at h4
    simp only [Prod.mk.injEq] at h4
    obtain ⟨rfl, rfl, rfl⟩ := h4
    exact .inr (.inr ⟨hx, he⟩)
  · cases ht : takeE l k3 with
    | error y =>
      simp only [numS, ht] at h4
      have h4' : (0, k3, y) = (n, k4, x4) := h4
      simp only [Prod.mk.injEq] at h4'
      obtain ⟨rfl, rfl, rfl⟩ := h4'
      exact .inr (.inr ⟨takeE_pos ht, by rw [entryE, e1]; simp only [e2, e3, sizeE, ht]⟩)
    | ok p =>
      obtain ⟨n', k'⟩ := p
      simp only [numS, ht] at h4
      have h4' : (n', k', 0) = (n, k4, x4) := h4
      simp only [Prod.mk.injEq] at h4'
      obtain ⟨rfl, rfl, rfl⟩ := h4'
      by_cases hn : 0 < n'
      · exact .inl ⟨rfl, hn, by rw [entryE, e1]; simp only [e2, e3, sizeE, ht, hn, and_self, if_true]⟩
      · obtain rfl : n' = 0 := by omega
        refine .inr (.inl ⟨rfl, hn, ?_⟩)
        rw [entryE, e1]
        simp [e2, e3, sizeE, ht, dataE]
/-- Any other entry's end. -/
theorem ent_row {l : List Nat} {k kd k1 t k2 i k3 : Nat} (hkd : kd ≠ 1) (e1 : oneE l 1 3 k = .ok (kd, k1)) (e2 : posE l k1 = .ok (t, k2)) (e3 : posE l k2 = .ok (i, k3)) :
    entryE l k = match rowE l 2048 k3 with | .error y => .error y | .ok (d, k5) => .ok ((kd, t, i, d), k5) := by
  rw [entryE, e1]
  simp only [e2, e3, sizeE, rowE]
  cases ht : takeE l k3 with
  | error y => rfl
  | ok p =>
    obtain ⟨n, k4⟩ := p
    simp only [if_neg (show ¬ (kd = 1 ∧ 0 < n) from fun h => hkd h.1)]
    by_cases hn : 2048 < n
    · simp only [if_pos hn]
    · simp only [if_neg hn]
      cases dataE l n k4 <;> rfl

/-- How the scan's entry ends. -/
def ScanEnt (S : Nat) (a : Option Addr) (c : Nat) (l : List Nat) (base : Nat) (r : Except Nat ((Nat × Nat × Nat × List Nat) × Nat)) (e : Ending) (w' : World) : Prop :=
  match r with
  | .ok (p, k') => (∃ sp m cc, e = .returned (entVal (p.1 : Int) (p.2.1 : Int) (p.2.2.1 : Int) sp m cc) ∧ Hid (p.2.2.2.length = m) ∧ OwnB base w' sp cc p.2.2.2) ∧ ScAt S w' a c l k' 0
  | .error y => (∃ (kd t i : Int) (sp : Option Addr) (m cc : Nat), e = .returned (entVal kd t i sp m cc)) ∧ ∃ k', ScAt S w' a c l k' y
set_option maxHeartbeats 2000000 in
theorem scanEntry_calls (S : Nat) (a : Option Addr) (c : Nat) (l : List Nat) (k : Nat) (w : World) (h : ScAt S w a c l k 0) (hl : l.length ≤ 140737488355328) (hc : l.length ≤ c) (hz : a = none → c = 0) :
    Calls Try.prog 37 #[.pointer (some ⟨S, 0, none⟩)] w fun e w' => ScanEnt S a c l w.heap.size (entryE l k) e w' ∧ w.grownBy w' (some S) := by
  have HL := hide hl
  have HC := hide hc
  have HZ := hide hz
  have b1 : Below w.heap.size w (w.alloc (.cells #[.int .i64 0, .int .i64 0, .int .i64 0, .slice none 0 0] 39)) := (Below.refl _ _).alloc (Nat.le_refl _) _
  have S0 := hide (h.later b1)
  have G0 := hide (grown_below (some S) b1)
  have Hlt := hide h.lt
  have HBlt := hide (fun b off h0 e => block_lt h.bytes h0 b off e)
  have R0 := hide (heap_new w (.cells #[.int .i64 0, .int .i64 0, .int .i64 0, .slice none 0 0] 39))
  obtain ⟨kd, k1, x1, h1⟩ : ∃ kd k1 x1, oneS l 1 3 k 0 = (kd, k1, x1) := ⟨_, _, _, rfl⟩
  obtain ⟨t, k2, x2, h2⟩ : ∃ t k2 x2, numS l 1 k1 x1 = (t, k2, x2) := ⟨_, _, _, rfl⟩
  obtain ⟨i, k3, x3, h3⟩ : ∃ i k3 x3, numS l 1 k2 x2 = (i, k3, x3) := ⟨_, _, _, rfl⟩
  have N1 := hide h1
  have N2 := hide h2
  have N3 := hide h3
  have Z0 := hide (size_alloc w (.cells #[.int .i64 0, .int .i64 0, .int .i64 0, .slice none 0 0] 39))
  clear h hl hc hz b1 h1 h2 h3
  go_enter Try.func37, Try.ntmps37
  go_wp2_with fail
  generalize w.alloc (.cells #[.int .i64 0, .int .i64 0, .int .i64 0, .slice none 0 0] 39) = W0 at *
  refine (scanOne_calls S a c l 1 3 k 0 _ (unhide S0) (unhide HL)).mono ?_
  rw [unhide N1]
  rintro e W1 ⟨rfl, s1, g1⟩
  have G1 := hide (grown_trans (unhide G0) g1)
  have R1 := hide (grown_block g1 (unhide R0) (by have := unhide Hlt; omega))
  have S1 := hide s1
  have Z1 := hide (show w.heap.size + 1 ≤ W1.heap.size from Nat.le_trans (Nat.le_of_eq (unhide Z0).symm) g1.size)
  clear s1 g1 G0 R0 S0 Z0
  go_wp2_with fail
  refine (num_calls S a c l 1 k1 x1 _ (unhide S1) (unhide HL)).mono ?_
  rw [unhide N2]
  rintro e W2 ⟨rfl, s2, g2⟩
  have G2 := hide (grown_trans (unhide G1) g2)
  have R2 := hide (grown_block g2 (unhide R1) (by have := unhide Hlt; omega))
  have S2 := hide s2
  have Z2 := hide (Nat.le_trans (unhide Z1) g2.size)
  clear s2 g2 G1 R1 S1 Z1
  go_wp2_with fail
  refine (num_calls S a c l 1 k2 x2 _ (unhide S2) (unhide HL)).mono ?_
  rw [unhide N3]
  rintro e W3 ⟨rfl, s3, g3⟩
  have G3 := hide (grown_trans (unhide G2) g3)
  have R3 := hide (grown_block g3 (unhide R2) (by have := unhide Hlt; omega))
  have S3 := hide s3
  have Z3 := hide (Nat.le_trans (unhide Z2) g3.size)
  clear s3 g3 G2 R2 S2 Z2
  by_cases hkd : kd = 1
  · subst hkd
    obtain ⟨n, k4, x4, h4⟩ : ∃ n k4 x4, numS l 0 k3 x3 = (n, k4, x4) := ⟨_, _, _, rfl⟩
    have HE := hide (ent_noop (unhide N1) (unhide N2) (unhide N3) h4)
    have N4 := hide h4
    clear h4
    go_wp2_with fail
    refine (num_calls S a c l 0 k3 x3 _ (unhide S3) (unhide HL)).mono ?_
    rw [unhide N4]
    rintro e W4 ⟨rfl, s4, g4⟩
    have G4 := hide (grown_trans (unhide G3) g4)
    have R4 := hide (grown_block g4 (unhide R3) (by have := unhide Hlt; omega))
    obtain ⟨_, _, c4, _, _⟩ := s4.cells
    have S4 := hide s4
    clear s4 g4 G3 R3 S3
    rcases unhide HE with ⟨rfl, hn, he⟩ | ⟨rfl, hn, he⟩ | ⟨hx, he⟩
    · have HE' := hide he
      clear he HE
      go_wp2_with fail
      refine (fail_calls S a c l k4 4 _ (unhide S4)).mono ?_
      rintro e W5 ⟨rfl, s5, g5⟩
      have G5 := hide (grown_trans (unhide G4) g5)
      have R5 := hide (grown_block g5 (unhide R4) (by have := unhide Hlt; omega))
      have S5 := hide s5
      obtain ⟨⟨p0, p1, p2, p3⟩, f0, f1, f2, f3⟩ := quad_cells (unhide R5)
      clear s5 g5 G4 R4 S4 c4
      go_wp2_with fail
      obtain ⟨q6, s7⟩ := quad_laid (x := .int .i64 1) (y := .int .i64 (t : Int)) (z := .int .i64 (i : Int)) (u := .slice none 0 0) (unhide R5)
      obtain ⟨⟨z0, z1, z2, z3⟩, _⟩ := quad_cells q6
      refine bodyPost_ret (v := entVal 1 (t : Int) (i : Int) none 0 0) (by simp [results, Try.results37, go_sem, z0, z1, z2, z3]) rfl ?_
      rw [unhide HE']
      exact ⟨⟨⟨_, _, _, _, _, _, rfl⟩, k4, (unhide S5).far s7 (by have := unhide Hlt; omega) (fun b off h0 e => by have := unhide HBlt b off h0 e; omega)⟩, grown_new (unhide G5) s7 (Nat.le_refl _)⟩
    · have HE' := hide he
      clear he HE
      obtain ⟨⟨p0, p1, p2, p3⟩, f0, f1, f2, f3⟩ := quad_cells (unhide R4)
      go_wp2_with fail
      obtain ⟨q6, s7⟩ := quad_laid (x := .int .i64 1) (y := .int .i64 (t : Int)) (z := .int .i64 (i : Int)) (u := .slice none 0 0) (unhide R4)
      obtain ⟨⟨z0, z1, z2, z3⟩, _⟩ := quad_cells q6
      refine bodyPost_ret (v := entVal 1 (t : Int) (i : Int) none 0 0) (by simp [results, Try.results37, go_sem, z0, z1, z2, z3]) rfl ?_
      rw [unhide HE']
      exact ⟨⟨⟨none, 0, 0, rfl, rfl, OwnB.ofNil _ _⟩, (unhide S4).far s7 (by have := unhide Hlt; omega) (fun b off h0 e => by have := unhide HBlt b off h0 e; omega)⟩, grown_new (unhide G4) s7 (Nat.le_refl _)⟩
    · have HE' := hide he
      have hx0 : ¬ (x4 : Int) = 0 := by omega
      clear he HE hx
      obtain ⟨⟨p0, p1, p2, p3⟩, f0, f1, f2, f3⟩ := quad_cells (unhide R4)
      go_wp2_with fail
      obtain ⟨q6, s7⟩ := quad_laid (x := .int .i64 1) (y := .int .i64 (t : Int)) (z := .int .i64 (i : Int)) (u := .slice none 0 0) (unhide R4)
      obtain ⟨⟨z0, z1, z2, z3⟩, _⟩ := quad_cells q6
      refine bodyPost_ret (v := entVal 1 (t : Int) (i : Int) none 0 0) (by simp [results, Try.results37, go_sem, z0, z1, z2, z3]) rfl ?_
      rw [unhide HE']
      exact ⟨⟨⟨_, _, _, _, _, _, rfl⟩, k4, (unhide S4).far s7 (by have := unhide Hlt; omega) (fun b off h0 e => by have := unhide HBlt b off h0 e; omega)⟩, grown_new (unhide G4) s7 (Nat.le_refl _)⟩
  · rcases ent_pre (unhide N1) (unhide N2) (unhide N3) with ⟨hx, he⟩ | ⟨rfl, e1, e2, e3⟩
    · have HE' := hide he
      clear he
      have HX := hide hx
      clear hx
      go_wp2_with fail
      refine (row_bad S a c l 2048 k3 x3 _ (unhide S3) (unhide HL) (unhide HX)).mono ?_
      rintro e W4 ⟨rfl, s4, g4⟩
      have G4 := hide (grown_trans (unhide G3) g4)
      have R4 := hide (grown_block g4 (unhide R3) (by have := unhide Hlt; omega))
      have S4 := hide s4
      obtain ⟨⟨p0, p1, p2, p3⟩, f0, f1, f2, f3⟩ := quad_cells (unhide R4)
      clear s4 g4 G3 R3 S3
      go_wp2_with fail
      obtain ⟨q6, s7⟩ := quad_laid (x := .int .i64 (kd : Int)) (y := .int .i64 (t : Int)) (z := .int .i64 (i : Int)) (u := .slice none 0 0) (unhide R4)
      obtain ⟨⟨z0, z1, z2, z3⟩, _⟩ := quad_cells q6
      refine bodyPost_ret (v := entVal (kd : Int) (t : Int) (i : Int) none 0 0) (by simp [results, Try.results37, go_sem, z0, z1, z2, z3]) rfl ?_
      rw [unhide HE']
      exact ⟨⟨⟨_, _, _, _, _, _, rfl⟩, k3, (unhide S4).far s7 (by have := unhide Hlt; omega) (fun b off h0 e => by have := unhide HBlt b off h0 e; omega)⟩, grown_new (unhide G4) s7 (Nat.le_refl _)⟩
    · have HE' := hide (ent_row hkd e1 e2 e3)
      clear e1 e2 e3
      go_wp2_with fail
      refine (row_calls S a c l 2048 k3 _ (unhide S3) (unhide HL) (unhide HC) (unhide HZ)).mono ?_
      rintro e W4 ⟨hrow, g4⟩
      have G4 := hide (grown_trans (unhide G3) g4)
      have R4 := hide (grown_block g4 (unhide R3) (by have := unhide Hlt; omega))
      obtain ⟨⟨p0, p1, p2, p3⟩, f0, f1, f2, f3⟩ := quad_cells (unhide R4)
      clear g4 G3 R3
      cases hr : rowE l 2048 k3 with
      | error y =>
        rw [hr] at hrow HE'
        obtain ⟨rfl, k5, s4⟩ := hrow
        have S4 := hide s4
        clear s4
        go_wp2_with fail
        obtain ⟨q6, s7⟩ := quad_laid (x := .int .i64 (kd : Int)) (y := .int .i64 (t : Int)) (z := .int .i64 (i : Int)) (u := .slice none 0 0) (unhide R4)
        obtain ⟨⟨z0, z1, z2, z3⟩, _⟩ := quad_cells q6
        refine bodyPost_ret (v := entVal (kd : Int) (t : Int) (i : Int) none 0 0) (by simp [results, Try.results37, go_sem, z0, z1, z2, z3]) rfl ?_
        rw [unhide HE']
        exact ⟨⟨⟨_, _, _, _, _, _, rfl⟩, k5, (unhide S4).far s7 (by have := unhide Hlt; omega) (fun b off h0 e => by have := unhide HBlt b off h0 e; omega)⟩, grown_new (unhide G4) s7 (Nat.le_refl _)⟩
      | ok p =>
        obtain ⟨d, k5⟩ := p
        rw [hr] at hrow HE'
        obtain ⟨⟨sp, m, cc, rfl, hlen, ho⟩, s4⟩ := hrow
        have S4 := hide s4
        have O4 := hide ho
        clear s4 ho
        go_wp2_with fail
        obtain ⟨q6, s7⟩ := quad_laid (x := .int .i64 (kd : Int)) (y := .int .i64 (t : Int)) (z := .int .i64 (i : Int)) (u := .slice sp m cc) (unhide R4)
        obtain ⟨⟨z0, z1, z2, z3⟩, _⟩ := quad_cells q6
        refine bodyPost_ret (v := entVal (kd : Int) (t : Int) (i : Int) sp m cc) (by simp [results, Try.results37, go_sem, z0, z1, z2, z3]) rfl ?_
        rw [unhide HE']
        exact ⟨⟨⟨sp, m, cc, rfl, hlen, ((unhide O4).far s7 (unhide Z3)).mono (by have := unhide Z3; omega)⟩, (unhide S4).far s7 (by have := unhide Hlt; omega) (fun b off h0 e => by have := unhide HBlt b off h0 e; omega)⟩, grown_new (unhide G4) s7 (Nat.le_refl _)⟩
end Go.Proofs.Ytcficfjgddjeeab
