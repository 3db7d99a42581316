/- Readers of wire: bytes that are gone through behind a pointer; giving up. -/
import Derived.Test.YtpkpnedcecjlbaaGreatDoorB03
import Derived.Laws.Pointers
import Derived.Test.YtpkpnedcecjlbaaGreatDoorB02
import Derived.WalkMore
import Derived.ScopeJumps
section
namespace Go.Proofs.YtpkpnedcecjlbaaGreatDoor
open Go.ChangeShapes Go.WideShapes Go.ChangeAt Go.RowKit

/-- The panic by which a reader gives up. -/
abbrev given (e : Nat) : List PanicEntry := [{ v := .iface 142 (.agg #[.int .i64 (e : Int)]), recovered := false }]
theorem giveUp_calls (e : Nat) (w : World) : Calls Tryz.prog 110 #[.int .i64 (e : Int)] w fun en w' => en = .panicked (given e) ∧ w' = w := by
  go_enter Tryz.func110, Tryz.ntmps110
  go_wp2
  exact ⟨rfl, rfl, rfl⟩

/-- A reader of bytes: its block, the bytes, the place. -/
structure RdAt (R : Nat) (w : World) (a : Option Addr) (c : Nat) (l : List Nat) (k : Nat) : Prop where
  blk : w.heap[R]? = some (.cells #[.slice a l.length c, .int .i64 (k : Int)] 129 (0, 0))
  bytes : BytesAt w a l
  low : ∀ b off, 0 < l.length → a = some ⟨b, off, none⟩ → b ≠ R
  le : k ≤ l.length

theorem RdAt.c0 {R : Nat} {w : World} {a : Option Addr} {c : Nat} {l : List Nat} {k : Nat} (h : RdAt R w a c l k) : w.cell? ⟨R, 0, none⟩ = some (.slice a l.length c) := by
  rw [cell_of_row w R 0 _ _ _ h.blk]; rfl
theorem RdAt.c1 {R : Nat} {w : World} {a : Option Addr} {c : Nat} {l : List Nat} {k : Nat} (h : RdAt R w a c l k) : w.cell? ⟨R, 1, none⟩ = some (.int .i64 (k : Int)) := by
  rw [cell_of_row w R 1 _ _ _ h.blk]; rfl
theorem RdAt.f1 {R : Nat} {w : World} {a : Option Addr} {c : Nat} {l : List Nat} {k : Nat} (h : RdAt R w a c l k) : w.frozen? ⟨R, 1, none⟩ = false := by
  simp [World.frozen?, h.blk]
/-- The place moves; other blocks than the reader's stay. -/
theorem RdAt.moved {R : Nat} {w : World} {a : Option Addr} {c : Nat} {l : List Nat} {k : Nat} (h : RdAt R w a c l k) (k' : Nat) (hk : k' ≤ l.length) : RdAt R (w.setCell ⟨R, 1, none⟩ (.int .i64 (k' : Int))) a c l k' := by
  have hg := grown_set w R 1 (.int .i64 (k' : Int))
  refine ⟨?_, ?_, h.low, hk⟩
  · have := heap_setCell_same w R 1 _ 129 (.int .i64 (k' : Int)) h.blk
    simpa using this
  · refine ⟨h.bytes.lt, fun i hi => ?_⟩
    obtain ⟨b, off, h1, h2⟩ := h.bytes.cell i hi
    refine ⟨b, off, h1, ?_⟩
    rw [hg.cell_far ⟨b, off + i, none⟩ (World.block_lt_of_cell? _ _ h2) (by simpa using h.low b off (by omega) h1)]
    exact h2
theorem RdAt.drewN {R : Nat} {w : World} {a : Option Addr} {c : Nat} {l : List Nat} {k : Nat} (h : RdAt R w a c l k) (n : Nat) : RdAt R (w.drewN n) a c l k := ⟨h.blk, ⟨h.bytes.lt, h.bytes.cell⟩, h.low, h.le⟩
theorem grown_drewN (w : World) (n : Nat) (row : Option Nat) : w.grownBy (w.drewN n) row := ⟨rfl, rfl, rfl, Nat.le_refl _, fun _ _ _ => rfl⟩

theorem one_short (R : Nat) (a : Option Addr) (c : Nat) (l : List Nat) (k : Nat) (w : World) (h : RdAt R w a c l k) (hk : k = l.length) :
    Calls Tryz.prog 109 #[.pointer (some ⟨R, 0, none⟩)] w fun e w' => e = .panicked (given 3) ∧ RdAt R w' a c l k ∧ w.grownBy w' (some R) := by
  have c0 := h.c0
  have c1 := h.c1
  subst hk
  have H := hide h
  clear h
  go_enter Tryz.func109, Tryz.ntmps109
  go_wp2_with fail
  go_quiet (fail)
  go_wp2_with fail
  refine (giveUp_calls 3 _).mono ?_
  rintro e w' ⟨rfl, rfl⟩
  go_wp2
  exact ⟨rfl, rfl, (unhide H).drewN _, grown_drewN _ _ _⟩
theorem one_ok (R : Nat) (a : Option Addr) (c : Nat) (l : List Nat) (k : Nat) (w : World) (h : RdAt R w a c l k) (hk : k < l.length) (hl : l.length ≤ maxLen) :
    Calls Tryz.prog 109 #[.pointer (some ⟨R, 0, none⟩)] w fun e w' => e = .returned (.int .u8 ((l.getD k 0 : Nat) : Int)) ∧ RdAt R w' a c l (k + 1) ∧ w.grownBy w' (some R) := by
  have c0 := h.c0
  have c1 := h.c1
  have f1 := h.f1
  obtain ⟨b, off, rfl, hc⟩ := h.bytes.cell k hk
  have H := hide h
  have H1 := hide hk
  unfold maxLen at hl
  clear h
  generalize l.getD k 0 = x at *
  have hne : ¬ k = l.length := by omega
  go_enter Tryz.func109, Tryz.ntmps109
  go_wp2_with fail
  go_quiet (fail)
  go_wp2_with fail
  go_quiet (fail)
  go_wp2
  go_ret
  exact ⟨rfl, ((unhide H).drewN _).moved (k + 1) (unhide H1), grown_trans (grown_drewN _ _ _) (grown_set _ _ _ _)⟩
end Go.Proofs.YtpkpnedcecjlbaaGreatDoor
end
/- Plain: the number at a place of bytes. -/
section
namespace Go.Proofs.YtpkpnedcecjlbaaGreatDoor

/-- What is read from a place on: the error, the number, the place behind; 's' bytes are read already, and 'n' of them. -/
def takeF (l : List Nat) : Nat → Nat → Nat → Nat → Nat × Nat × Nat
  | 0, _, _, k => (6, 0, k)
  | f + 1, s, n, k =>
    if l.length ≤ k then (3, 0, k)
    else if 128 ≤ l.getD k 0 then (if f = 0 then (6, 0, k + 1) else takeF l f (s + 1) (n + l.getD k 0 % 128 * 128 ^ s) (k + 1))
    else if l.getD k 0 = 0 ∧ 0 < s then (4, 0, k + 1)
    else if 1099511627776 < n + l.getD k 0 * 128 ^ s then (6, 0, k + 1)
    else (0, n + l.getD k 0 * 128 ^ s, k + 1)
def takeN (l : List Nat) (k : Nat) : Nat × Nat × Nat := takeF l 6 0 0 k
theorem takeF_short {l : List Nat} {k : Nat} (f s m : Nat) (hk : ¬ k < l.length) : takeF l (f + 1) s m k = (3, 0, k) := by
  rw [takeF, if_pos (by omega)]
theorem takeF_more {l : List Nat} {k x : Nat} (f s m : Nat) (hx : l.getD k 0 = x) (hk : k < l.length) (h : 128 ≤ x) (hf : f ≠ 0) : takeF l (f + 1) s m k = takeF l f (s + 1) (m + x % 128 * 128 ^ s) (k + 1) := by
  rw [takeF, if_neg (by omega), hx, if_pos h, if_neg hf]
theorem takeF_last {l : List Nat} {k x : Nat} (s m : Nat) (hx : l.getD k 0 = x) (hk : k < l.length) (h : 128 ≤ x) : takeF l (0 + 1) s m k = (6, 0, k + 1) := by
  rw [takeF, if_neg (by omega), hx, if_pos h, if_pos rfl]
theorem takeF_form {l : List Nat} {k x : Nat} (f s m : Nat) (hx : l.getD k 0 = x) (hk : k < l.length) (h : x = 0) (hs : 0 < s) : takeF l (f + 1) s m k = (4, 0, k + 1) := by
  rw [takeF, if_neg (by omega), hx, if_neg (by omega), if_pos ⟨h, hs⟩]
theorem takeF_big {l : List Nat} {k x : Nat} (f s m : Nat) (hx : l.getD k 0 = x) (hk : k < l.length) (h : ¬ 128 ≤ x) (h0 : ¬ (x = 0 ∧ 0 < s)) (hb : 1099511627776 < m + x * 128 ^ s) : takeF l (f + 1) s m k = (6, 0, k + 1) := by
  rw [takeF, if_neg (by omega), hx, if_neg h, if_neg h0, if_pos hb]
theorem takeF_ok {l : List Nat} {k x : Nat} (f s m : Nat) (hx : l.getD k 0 = x) (hk : k < l.length) (h : ¬ 128 ≤ x) (h0 : ¬ (x = 0 ∧ 0 < s)) (hb : ¬ 1099511627776 < m + x * 128 ^ s) : takeF l (f + 1) s m k = (0, m + x * 128 ^ s, k + 1) := by
  rw [takeF, if_neg (by omega), hx, if_neg h, if_neg h0, if_neg hb]
/-- The number at a place and the place behind it, or the error. -/
def takeE (l : List Nat) (k : Nat) : Except Nat (Nat × Nat) := if (takeN l k).1 = 0 then .ok ((takeN l k).2.1, (takeN l k).2.2) else .error (takeN l k).1
/-- A hard state from a place on. -/
def hardE (l : List Nat) (k : Nat) : Except Nat ((Nat × Nat) × Nat) :=
  match takeE l k with
  | .error x => .error x
  | .ok (t, k) =>
    match takeE l k with
    | .error x => .error x
    | .ok (v, k) => if 9 < v then .error 4 else .ok ((t, v), k)
/-- Nothing stands behind. -/
def wholeE {α : Type} (l : List Nat) (r : Except Nat (α × Nat)) : Except Nat α :=
  match r with
  | .error x => .error x
  | .ok (x, k) => if k < l.length then .error 4 else .ok x
theorem takeE_pos {l : List Nat} {k x : Nat} (h : takeE l k = .error x) : x ≠ 0 := by
  unfold takeE at h
  split at h
  · cases h
  · cases h; assumption
theorem hardE_pos {l : List Nat} {k x : Nat} (h : hardE l k = .error x) : x ≠ 0 := by
  unfold hardE at h
  split at h
  · next h1 => cases h; exact takeE_pos h1
  · split at h
    · next h1 => cases h; exact takeE_pos h1
    · split at h
      · cases h; decide
      · cases h
theorem wholeE_pos {α : Type} {l : List Nat} {r : Except Nat (α × Nat)} {x : Nat} (h : wholeE l r = .error x) (hr : ∀ y, r = .error y → y ≠ 0) : x ≠ 0 := by
  unfold wholeE at h
  split at h
  · cases h; exact hr _ rfl
  · split at h
    · cases h; decide
    · cases h
/-- A byte from a to b. -/
def oneE (l : List Nat) (a b k : Nat) : Except Nat (Nat × Nat) := if k < l.length then (if a ≤ l.getD k 0 ∧ l.getD k 0 ≤ b then .ok (l.getD k 0, k + 1) else .error 4) else .error 3
def posE (l : List Nat) (k : Nat) : Except Nat (Nat × Nat) :=
  match takeE l k with
  | .error x => .error x
  | .ok (n, k) => if n = 0 then .error 4 else .ok (n, k)
def sizeE (l : List Nat) (kind k : Nat) : Except Nat (Nat × Nat) :=
  match takeE l k with
  | .error x => .error x
  | .ok (n, k) => if kind = 1 ∧ 0 < n then .error 4 else if 2048 < n then .error 6 else .ok (n, k)
def dataE (l : List Nat) (n k : Nat) : Except Nat (List Nat × Nat) := if l.length - k < n then .error 3 else .ok ((l.drop k).take n, k + n)
/-- An entry from a place on. -/
def entryE (l : List Nat) (k : Nat) : Except Nat ((Nat × Nat × Nat × List Nat) × Nat) :=
  match oneE l 1 3 k with
  | .error x => .error x
  | .ok (kd, k) =>
    match posE l k with
    | .error x => .error x
    | .ok (t, k) =>
      match posE l k with
      | .error x => .error x
      | .ok (i, k) =>
        match sizeE l kd k with
        | .error x => .error x
        | .ok (n, k) =>
          match dataE l n k with
          | .error x => .error x
          | .ok (d, k) => .ok ((kd, t, i, d), k)
theorem oneE_pos {l : List Nat} {a b k x : Nat} (h : oneE l a b k = .error x) : x ≠ 0 := by
  unfold oneE at h
  split at h
  · split at h
    · cases h
    · cases h; decide
  · cases h; decide
theorem posE_pos {l : List Nat} {k x : Nat} (h : posE l k = .error x) : x ≠ 0 := by
  unfold posE at h
  split at h
  · next h1 => cases h; exact takeE_pos h1
  · split at h
    · cases h; decide
    · cases h
theorem sizeE_pos {l : List Nat} {kd k x : Nat} (h : sizeE l kd k = .error x) : x ≠ 0 := by
  unfold sizeE at h
  split at h
  · next h1 => cases h; exact takeE_pos h1
  · split at h
    · cases h; decide
    · split at h
      · cases h; decide
      · cases h
theorem dataE_pos {l : List Nat} {n k x : Nat} (h : dataE l n k = .error x) : x ≠ 0 := by
  unfold dataE at h
  split at h
  · cases h; decide
  · cases h
theorem entryE_pos {l : List Nat} {k x : Nat} (h : entryE l k = .error x) : x ≠ 0 := by
  unfold entryE at h
  split at h
  · next h1 => cases h; exact oneE_pos h1
  · split at h
    · next h1 => cases h; exact posE_pos h1
    · split at h
      · next h1 => cases h; exact posE_pos h1
      · split at h
        · next h1 => cases h; exact sizeE_pos h1
        · split at h
          · next h1 => cases h; exact dataE_pos h1
          · cases h
/-- Bytes with their length ahead. -/
def rowE (l : List Nat) (most k : Nat) : Except Nat (List Nat × Nat) :=
  match takeE l k with
  | .error x => .error x
  | .ok (n, k) => if most < n then .error 6 else dataE l n k
theorem rowE_pos {l : List Nat} {most k x : Nat} (h : rowE l most k = .error x) : x ≠ 0 := by
  unfold rowE at h
  split at h
  · next h1 => cases h; exact takeE_pos h1
  · split at h
    · cases h; decide
    · exact dataE_pos h
end Go.Proofs.YtpkpnedcecjlbaaGreatDoor
end
/- The contract of a reader's number. -/
section
namespace Go.Proofs.YtpkpnedcecjlbaaGreatDoor
open Go.ChangeShapes Go.WideShapes Go.ChangeAt Go.RowKit

/-- A scope that begins with a piece x, then a label to which its rest may jump back. -/
theorem wp_scope_back {P : Program} {Q : Exit → Act → World → Prop} {a : Act} {w : World} {x R : Code} (l : Nat) (J : Act → World → Prop) (μ : Act → World → Nat) (hx : findLabel x l = none)
    (first : ∀ K : Exit → Act → World → Prop, (∀ a w, J a w → K .normal a w) → x.wp P K a w)
    (pass : ∀ a w, J a w → R.wp P (Exit.jump l (fun a' w' => J a' w' ∧ μ a' w' < μ a w) Q) a w) : (Code.scope (x.seq ((Code.label l).seq R))).wp P Q a w := by
  refine wp_scope_jumps (rest := Code.seq .skip R) l J μ (by simp [findLabel, hx]) ?_ ?_
  · refine wp_seq (first _ fun a w hJ => ?_)
    refine wp_seq (wp_label ?_)
    refine wp_mono (pass a w hJ) ?_
    intro e a w h
    cases e <;> first | exact h | exact ⟨h.1, h.2.1⟩
  · intro a w hJ
    refine wp_seq (wp_skip ?_)
    exact pass a w hJ

theorem and127_u8 (x : Nat) (hx : x < 256) : bits .and .u8 (x : Int) 127 = ((x % 128 : Nat) : Int) := by
  have := u8_and_nat x 127 hx (by decide)
  rw [show (127 : Int) = ((127 : Nat) : Int) from rfl, this, show (127 : Nat) = 2 ^ 7 - 1 from rfl, Nat.and_two_pow_sub_one_eq_mod]
theorem or_join (m y s : Nat) (hs : s ≤ 5) (hm : m < 128 ^ s) (hy : y < 128) : bits .or .i64 (m : Int) ((y * 128 ^ s : Nat) : Int) = ((m + y * 128 ^ s : Nat) : Int) := by
  have hc : bits .or .i64 (m : Int) ((y * 128 ^ s : Nat) : Int) = bits .or .i64 ((y * 128 ^ s : Nat) : Int) (m : Int) := by simp only [bits, BitVec.or_comm]
  rw [hc]
  rcases (by omega : s = 0 ∨ s = 1 ∨ s = 2 ∨ s = 3 ∨ s = 4 ∨ s = 5) with rfl | rfl | rfl | rfl | rfl | rfl <;> simp only [Nat.reducePow] at hm ⊢
  · rw [bits_join .i64 63 (by decide) wraps63 0 _ _ (by omega) (by omega) (by omega) (by omega) (by omega) (by omega)]; omega
  · rw [bits_join .i64 63 (by decide) wraps63 7 _ _ (by omega) (by omega) (by omega) (by omega) (by omega) (by omega)]; omega
  · rw [bits_join .i64 63 (by decide) wraps63 14 _ _ (by omega) (by omega) (by omega) (by omega) (by omega) (by omega)]; omega
  · rw [bits_join .i64 63 (by decide) wraps63 21 _ _ (by omega) (by omega) (by omega) (by omega) (by omega) (by omega)]; omega
  · rw [bits_join .i64 63 (by decide) wraps63 28 _ _ (by omega) (by omega) (by omega) (by omega) (by omega) (by omega)]; omega
  · rw [bits_join .i64 63 (by decide) wraps63 35 _ _ (by omega) (by omega) (by omega) (by omega) (by omega) (by omega)]; omega

/-- What holds at the label of number: so many bytes are read. -/
def NumJ (R : Nat) (a : Option Addr) (c : Nat) (l : List Nat) (k : Nat) (w : World) (a' : Act) (wr : World) : Prop :=
  ∃ (m s k' : Nat) (u5 u6 u7 u8 u9 u10 u11 u12 u13 u14 u15 u16 u17 u18 u19 u20 u21 : Value), a' = { tmps := #[.pointer (some ⟨R, 0, none⟩), undef, .int .i64 0, .int .i64 (m : Int), .int .i64 (s : Int), u5, u6, u7, u8, u9, u10, u11, u12, u13, u14, u15, u16, u17, u18, u19, u20, u21, undef, undef, undef, undef, undef, undef, undef, undef, undef, undef, undef, undef], defers := [] } ∧ s ≤ 5 ∧ m < 128 ^ s ∧ Hid (takeF l (6 - s) s m k' = takeN l k) ∧ Hid (RdAt R wr a c l k') ∧ Hid (w.grownBy wr (some R))
def NumM (a' : Act) (_ : World) : Nat := 6 - (intOf (a'.tmps.getD 4 undef)).toNat

set_option maxRecDepth 20000 in
set_option maxHeartbeats 1000000 in
theorem number_reads (R : Nat) (a : Option Addr) (c : Nat) (l : List Nat) (k : Nat) (w : World) (h : RdAt R w a c l k) (hl : l.length ≤ maxLen) :
    Calls Tryz.prog 95 #[.pointer (some ⟨R, 0, none⟩)] w fun e w' => w.grownBy w' (some R) ∧
      ((takeN l k).1 = 0 ∧ e = .returned (.int .i64 ((takeN l k).2.1 : Int)) ∧ RdAt R w' a c l (takeN l k).2.2 ∨
       (takeN l k).1 ≠ 0 ∧ e = .panicked (given (takeN l k).1) ∧ ∃ k', RdAt R w' a c l k') := by
  have H := hide h
  have HL := hide hl
  clear h hl
  go_enter Tryz.func95, Tryz.ntmps95
  go_wp2
  refine wp_scope_back 0 (NumJ R a c l k w) NumM rfl ?_ ?_
  · intro K hK
    go_wp2
    exact ⟨0, 0, k, _, _, _, _, _, _, _, _, _, _, _, _, _, _, _, _, _, rfl, by omega, by decide, rfl, unhide H, grown_refl _ _⟩
  · rintro a' wr ⟨m, s, k', u5, u6, u7, u8, u9, u10, u11, u12, u13, u14, u15, u16, u17, u18, u19, u20, u21, rfl, hs, hm, heq, hr, hg⟩
    by_cases hk : k' < l.length
    · have hx := getD_lt (unhide hr).bytes.lt k'
      go_wp2_with fail
      refine (one_ok R a c l k' wr (unhide hr) hk (unhide HL)).mono ?_
      rintro e w1 ⟨rfl, hr1, hg1⟩
      have Hr1 := hide hr1
      have Hg1 := hide (grown_trans (unhide hg) hg1)
      generalize hxx : l.getD k' 0 = x at *
      have HX := hide hxx
      have hA := and127_u8 x hx
      have hO := or_join m (x % 128) s hs hm (Nat.mod_lt _ (by decide))
      have hy : x % 128 < 128 := Nat.mod_lt _ (by decide)
      generalize hyy : x % 128 = y at *
      have HY := hide hyy
      clear hr1 hg1 hr hg hxx H hyy
      rcases (by omega : s = 0 ∨ s = 1 ∨ s = 2 ∨ s = 3 ∨ s = 4 ∨ s = 5) with rfl | rfl | rfl | rfl | rfl | rfl
      · obtain ⟨n, hn⟩ : ∃ n, n = m + y * 128 ^ 0 := ⟨_, rfl⟩
        have e : ((y * 128 ^ 0 : Nat) : Int) = (y : Int) := by simp only [Nat.reducePow]; omega
        rw [e, ← hn] at hO
        have hlt := hide (show n < 128 ^ 1 by rw [hn]; simp only [Nat.reducePow] at hm ⊢; omega)
        have HN := hide hn
        clear e hn hm hs
        by_cases h128 : 128 ≤ x
        · have ht := hide ((takeF_more 5 0 m (unhide HX) hk h128 (by decide)).symm.trans (unhide heq))
          go_wp2_with fail
          go_step3
          refine ⟨rfl, ⟨n, 1, k' + 1, _, _, _, _, _, _, _, _, _, _, _, _, _, _, _, _, _, rfl, by omega, unhide hlt, ?_, unhide Hr1, unhide Hg1⟩, by simp [NumM, intOf]⟩
          rw [unhide HN, ← unhide HY]
          exact unhide ht
        · have hyx : y = x := by have := unhide HY; omega
          subst hyx
          by_cases hb : 1099511627776 < n
          · have ht := hide ((takeF_big 5 0 m (unhide HX) hk h128 (fun h => absurd h.2 (by decide)) (by rw [← unhide HN]; exact hb)).symm.trans (unhide heq))
            go_wp2_with fail
            all_goals (have := unhide hlt; omega)
          · have ht := hide ((takeF_ok 5 0 m (unhide HX) hk h128 (fun h => absurd h.2 (by decide)) (by rw [← unhide HN]; exact hb)).symm.trans (unhide heq))
            rw [← unhide HN] at ht
            go_wp2_with fail
            all_goals (simp only [Exit.jump]; go_ret; exact ⟨unhide Hg1, .inl ⟨by rw [← unhide ht], by first | (rw [← unhide ht]; done) | (rw [← unhide ht]; rfl), by rw [← unhide ht]; exact unhide Hr1⟩⟩)
      · obtain ⟨n, hn⟩ : ∃ n, n = m + y * 128 ^ 1 := ⟨_, rfl⟩
        have e : ((y * 128 ^ 1 : Nat) : Int) = ((y : Int) * 128) := by simp only [Nat.reducePow]; omega
        rw [e, ← hn] at hO
        have hlt := hide (show n < 128 ^ 2 by rw [hn]; simp only [Nat.reducePow] at hm ⊢; omega)
        have HN := hide hn
        clear e hn hm hs
        by_cases h128 : 128 ≤ x
        · have ht := hide ((takeF_more 4 1 m (unhide HX) hk h128 (by decide)).symm.trans (unhide heq))
          go_wp2_with fail
          go_step3
          refine ⟨rfl, ⟨n, 2, k' + 1, _, _, _, _, _, _, _, _, _, _, _, _, _, _, _, _, _, rfl, by omega, unhide hlt, ?_, unhide Hr1, unhide Hg1⟩, by simp [NumM, intOf]⟩
          rw [unhide HN, ← unhide HY]
          exact unhide ht
        · have hyx : y = x := by have := unhide HY; omega
          subst hyx
          by_cases h0 : y = 0
          · have ht := hide ((takeF_form 4 1 m (unhide HX) hk h0 (by decide)).symm.trans (unhide heq))
            go_wp2_with fail
            refine (giveUp_calls 4 _).mono ?_
            rintro e w2 ⟨rfl, rfl⟩
            go_wp2
            simp only [Exit.jump]
            refine ⟨rfl, unhide Hg1, .inr ⟨by rw [← unhide ht]; simp, by first | (rw [← unhide ht]; done) | (rw [← unhide ht]; rfl), k' + 1, unhide Hr1⟩⟩
          · by_cases hb : 1099511627776 < n
            · have ht := hide ((takeF_big 4 1 m (unhide HX) hk h128 (fun h => h0 h.1) (by rw [← unhide HN]; exact hb)).symm.trans (unhide heq))
              go_wp2_with fail
              refine (giveUp_calls 6 _).mono ?_
              rintro e w2 ⟨rfl, rfl⟩
              go_wp2
              simp only [Exit.jump]
              refine ⟨rfl, unhide Hg1, .inr ⟨by rw [← unhide ht]; simp, by first | (rw [← unhide ht]; done) | (rw [← unhide ht]; rfl), k' + 1, unhide Hr1⟩⟩
            · have ht := hide ((takeF_ok 4 1 m (unhide HX) hk h128 (fun h => h0 h.1) (by rw [← unhide HN]; exact hb)).symm.trans (unhide heq))
              rw [← unhide HN] at ht
              go_wp2_with fail
              simp only [Exit.jump]
              go_ret
              refine ⟨unhide Hg1, .inl ⟨by rw [← unhide ht], by first | (rw [← unhide ht]; done) | (rw [← unhide ht]; rfl), by rw [← unhide ht]; exact unhide Hr1⟩⟩
      · obtain ⟨n, hn⟩ : ∃ n, n = m + y * 128 ^ 2 := ⟨_, rfl⟩
        have e : ((y * 128 ^ 2 : Nat) : Int) = ((y : Int) * 16384) := by simp only [Nat.reducePow]; omega
        rw [e, ← hn] at hO
        have hlt := hide (show n < 128 ^ 3 by rw [hn]; simp only [Nat.reducePow] at hm ⊢; omega)
        have HN := hide hn
        clear e hn hm hs
        by_cases h128 : 128 ≤ x
        · have ht := hide ((takeF_more 3 2 m (unhide HX) hk h128 (by decide)).symm.trans (unhide heq))
          go_wp2_with fail
          go_step3
          refine ⟨rfl, ⟨n, 3, k' + 1, _, _, _, _, _, _, _, _, _, _, _, _, _, _, _, _, _, rfl, by omega, unhide hlt, ?_, unhide Hr1, unhide Hg1⟩, by simp [NumM, intOf]⟩
          rw [unhide HN, ← unhide HY]
          exact unhide ht
        · have hyx : y = x := by have := unhide HY; omega
          subst hyx
          by_cases h0 : y = 0
          · have ht := hide ((takeF_form 3 2 m (unhide HX) hk h0 (by decide)).symm.trans (unhide heq))
            go_wp2_with fail
            refine (giveUp_calls 4 _).mono ?_
            rintro e w2 ⟨rfl, rfl⟩
            go_wp2
            simp only [Exit.jump]
            refine ⟨rfl, unhide Hg1, .inr ⟨by rw [← unhide ht]; simp, by first | (rw [← unhide ht]; done) | (rw [← unhide ht]; rfl), k' + 1, unhide Hr1⟩⟩
          · by_cases hb : 1099511627776 < n
            · have ht := hide ((takeF_big 3 2 m (unhide HX) hk h128 (fun h => h0 h.1) (by rw [← unhide HN]; exact hb)).symm.trans (unhide heq))
              go_wp2_with fail
              refine (giveUp_calls 6 _).mono ?_
              rintro e w2 ⟨rfl, rfl⟩
              go_wp2
              simp only [Exit.jump]
              refine ⟨rfl, unhide Hg1, .inr ⟨by rw [← unhide ht]; simp, by first | (rw [← unhide ht]; done) | (rw [← unhide ht]; rfl), k' + 1, unhide Hr1⟩⟩
            · have ht := hide ((takeF_ok 3 2 m (unhide HX) hk h128 (fun h => h0 h.1) (by rw [← unhide HN]; exact hb)).symm.trans (unhide heq))
              rw [← unhide HN] at ht
              go_wp2_with fail
              simp only [Exit.jump]
              go_ret
              refine ⟨unhide Hg1, .inl ⟨by rw [← unhide ht], by first | (rw [← unhide ht]; done) | (rw [← unhide ht]; rfl), by rw [← unhide ht]; exact unhide Hr1⟩⟩
      · obtain ⟨n, hn⟩ : ∃ n, n = m + y * 128 ^ 3 := ⟨_, rfl⟩
        have e : ((y * 128 ^ 3 : Nat) : Int) = ((y : Int) * 2097152) := by simp only [Nat.reducePow]; omega
        rw [e, ← hn] at hO
        have hlt := hide (show n < 128 ^ 4 by rw [hn]; simp only [Nat.reducePow] at hm ⊢; omega)
        have HN := hide hn
        clear e hn hm hs
        by_cases h128 : 128 ≤ x
        · have ht := hide ((takeF_more 2 3 m (unhide HX) hk h128 (by decide)).symm.trans (unhide heq))
          go_wp2_with fail
          go_step3
          refine ⟨rfl, ⟨n, 4, k' + 1, _, _, _, _, _, _, _, _, _, _, _, _, _, _, _, _, _, rfl, by omega, unhide hlt, ?_, unhide Hr1, unhide Hg1⟩, by simp [NumM, intOf]⟩
          rw [unhide HN, ← unhide HY]
          exact unhide ht
        · have hyx : y = x := by have := unhide HY; omega
          subst hyx
          by_cases h0 : y = 0
          · have ht := hide ((takeF_form 2 3 m (unhide HX) hk h0 (by decide)).symm.trans (unhide heq))
            go_wp2_with fail
            refine (giveUp_calls 4 _).mono ?_
            rintro e w2 ⟨rfl, rfl⟩
            go_wp2
            simp only [Exit.jump]
            refine ⟨rfl, unhide Hg1, .inr ⟨by rw [← unhide ht]; simp, by first | (rw [← unhide ht]; done) | (rw [← unhide ht]; rfl), k' + 1, unhide Hr1⟩⟩
          · by_cases hb : 1099511627776 < n
            · have ht := hide ((takeF_big 2 3 m (unhide HX) hk h128 (fun h => h0 h.1) (by rw [← unhide HN]; exact hb)).symm.trans (unhide heq))
              go_wp2_with fail
              refine (giveUp_calls 6 _).mono ?_
              rintro e w2 ⟨rfl, rfl⟩
              go_wp2
              simp only [Exit.jump]
              refine ⟨rfl, unhide Hg1, .inr ⟨by rw [← unhide ht]; simp, by first | (rw [← unhide ht]; done) | (rw [← unhide ht]; rfl), k' + 1, unhide Hr1⟩⟩
            · have ht := hide ((takeF_ok 2 3 m (unhide HX) hk h128 (fun h => h0 h.1) (by rw [← unhide HN]; exact hb)).symm.trans (unhide heq))
              rw [← unhide HN] at ht
              go_wp2_with fail
              simp only [Exit.jump]
              go_ret
              refine ⟨unhide Hg1, .inl ⟨by rw [← unhide ht], by first | (rw [← unhide ht]; done) | (rw [← unhide ht]; rfl), by rw [← unhide ht]; exact unhide Hr1⟩⟩
      · obtain ⟨n, hn⟩ : ∃ n, n = m + y * 128 ^ 4 := ⟨_, rfl⟩
        have e : ((y * 128 ^ 4 : Nat) : Int) = ((y : Int) * 268435456) := by simp only [Nat.reducePow]; omega
        rw [e, ← hn] at hO
        have hlt := hide (show n < 128 ^ 5 by rw [hn]; simp only [Nat.reducePow] at hm ⊢; omega)
        have HN := hide hn
        clear e hn hm hs
        by_cases h128 : 128 ≤ x
        · have ht := hide ((takeF_more 1 4 m (unhide HX) hk h128 (by decide)).symm.trans (unhide heq))
          go_wp2_with fail
          go_step3
          refine ⟨rfl, ⟨n, 5, k' + 1, _, _, _, _, _, _, _, _, _, _, _, _, _, _, _, _, _, rfl, by omega, unhide hlt, ?_, unhide Hr1, unhide Hg1⟩, by simp [NumM, intOf]⟩
          rw [unhide HN, ← unhide HY]
          exact unhide ht
        · have hyx : y = x := by have := unhide HY; omega
          subst hyx
          by_cases h0 : y = 0
          · have ht := hide ((takeF_form 1 4 m (unhide HX) hk h0 (by decide)).symm.trans (unhide heq))
            go_wp2_with fail
            refine (giveUp_calls 4 _).mono ?_
            rintro e w2 ⟨rfl, rfl⟩
            go_wp2
            simp only [Exit.jump]
            refine ⟨rfl, unhide Hg1, .inr ⟨by rw [← unhide ht]; simp, by first | (rw [← unhide ht]; done) | (rw [← unhide ht]; rfl), k' + 1, unhide Hr1⟩⟩
          · by_cases hb : 1099511627776 < n
            · have ht := hide ((takeF_big 1 4 m (unhide HX) hk h128 (fun h => h0 h.1) (by rw [← unhide HN]; exact hb)).symm.trans (unhide heq))
              go_wp2_with fail
              refine (giveUp_calls 6 _).mono ?_
              rintro e w2 ⟨rfl, rfl⟩
              go_wp2
              simp only [Exit.jump]
              refine ⟨rfl, unhide Hg1, .inr ⟨by rw [← unhide ht]; simp, by first | (rw [← unhide ht]; done) | (rw [← unhide ht]; rfl), k' + 1, unhide Hr1⟩⟩
            · have ht := hide ((takeF_ok 1 4 m (unhide HX) hk h128 (fun h => h0 h.1) (by rw [← unhide HN]; exact hb)).symm.trans (unhide heq))
              rw [← unhide HN] at ht
              go_wp2_with fail
              simp only [Exit.jump]
              go_ret
              refine ⟨unhide Hg1, .inl ⟨by rw [← unhide ht], by first | (rw [← unhide ht]; done) | (rw [← unhide ht]; rfl), by rw [← unhide ht]; exact unhide Hr1⟩⟩
      · obtain ⟨n, hn⟩ : ∃ n, n = m + y * 128 ^ 5 := ⟨_, rfl⟩
        have e : ((y * 128 ^ 5 : Nat) : Int) = ((y : Int) * 34359738368) := by simp only [Nat.reducePow]; omega
        rw [e, ← hn] at hO
        have hlt := hide (show n < 128 ^ 6 by rw [hn]; simp only [Nat.reducePow] at hm ⊢; omega)
        have HN := hide hn
        clear e hn hm hs
        by_cases h128 : 128 ≤ x
        · have ht := hide ((takeF_last 5 m (unhide HX) hk h128).symm.trans (unhide heq))
          go_wp2_with fail
          refine (giveUp_calls 6 _).mono ?_
          rintro e w2 ⟨rfl, rfl⟩
          go_wp2
          simp only [Exit.jump]
          refine ⟨rfl, unhide Hg1, .inr ⟨by rw [← unhide ht]; simp, by first | (rw [← unhide ht]; done) | (rw [← unhide ht]; rfl), k' + 1, unhide Hr1⟩⟩
        · have hyx : y = x := by have := unhide HY; omega
          subst hyx
          by_cases h0 : y = 0
          · have ht := hide ((takeF_form 0 5 m (unhide HX) hk h0 (by decide)).symm.trans (unhide heq))
            go_wp2_with fail
            refine (giveUp_calls 4 _).mono ?_
            rintro e w2 ⟨rfl, rfl⟩
            go_wp2
            simp only [Exit.jump]
            refine ⟨rfl, unhide Hg1, .inr ⟨by rw [← unhide ht]; simp, by first | (rw [← unhide ht]; done) | (rw [← unhide ht]; rfl), k' + 1, unhide Hr1⟩⟩
          · by_cases hb : 1099511627776 < n
            · have ht := hide ((takeF_big 0 5 m (unhide HX) hk h128 (fun h => h0 h.1) (by rw [← unhide HN]; exact hb)).symm.trans (unhide heq))
              go_wp2_with fail
              refine (giveUp_calls 6 _).mono ?_
              rintro e w2 ⟨rfl, rfl⟩
              go_wp2
              simp only [Exit.jump]
              refine ⟨rfl, unhide Hg1, .inr ⟨by rw [← unhide ht]; simp, by first | (rw [← unhide ht]; done) | (rw [← unhide ht]; rfl), k' + 1, unhide Hr1⟩⟩
            · have ht := hide ((takeF_ok 0 5 m (unhide HX) hk h128 (fun h => h0 h.1) (by rw [← unhide HN]; exact hb)).symm.trans (unhide heq))
              rw [← unhide HN] at ht
              go_wp2_with fail
              simp only [Exit.jump]
              go_ret
              refine ⟨unhide Hg1, .inl ⟨by rw [← unhide ht], by first | (rw [← unhide ht]; done) | (rw [← unhide ht]; rfl), by rw [← unhide ht]; exact unhide Hr1⟩⟩
    · go_wp2_with fail
      have hkl : k' = l.length := Nat.le_antisymm (unhide hr).le (by omega)
      refine (one_short R a c l k' wr (unhide hr) hkl).mono ?_
      rintro e w1 ⟨rfl, hr1, hg1⟩
      go_wp2
      have ht : (takeN l k).1 = 3 := by
        rw [← unhide heq]
        obtain ⟨f, hf⟩ : ∃ f, 6 - s = f + 1 := ⟨5 - s, by omega⟩
        rw [hf, takeF, if_pos (by omega)]
      simp only [Exit.jump]
      refine ⟨rfl, grown_trans (unhide hg) hg1, .inr ⟨by omega, by rw [ht], k', hr1⟩⟩
theorem number_ok (R : Nat) (a : Option Addr) (c : Nat) (l : List Nat) (k n k2 : Nat) (w : World) (h : RdAt R w a c l k) (hl : l.length ≤ maxLen) (ht : takeN l k = (0, n, k2)) :
    Calls Tryz.prog 95 #[.pointer (some ⟨R, 0, none⟩)] w fun e w' => e = .returned (.int .i64 (n : Int)) ∧ RdAt R w' a c l k2 ∧ w.grownBy w' (some R) := by
  refine (number_reads R a c l k w h hl).mono ?_
  rw [ht]
  rintro e w' ⟨hg, ⟨_, rfl, hr⟩ | ⟨h0, _⟩⟩
  · exact ⟨rfl, hr, hg⟩
  · exact absurd rfl h0
theorem number_bad (R : Nat) (a : Option Addr) (c : Nat) (l : List Nat) (k x : Nat) (w : World) (h : RdAt R w a c l k) (hl : l.length ≤ maxLen) (ht : (takeN l k).1 = x) (hx : x ≠ 0) :
    Calls Tryz.prog 95 #[.pointer (some ⟨R, 0, none⟩)] w fun e w' => e = .panicked (given x) ∧ (∃ k', RdAt R w' a c l k') ∧ w.grownBy w' (some R) := by
  refine (number_reads R a c l k w h hl).mono ?_
  rw [ht]
  rintro e w' ⟨hg, ⟨h0, _⟩ | ⟨_, rfl, hr⟩⟩
  · exact absurd h0 hx
  · exact ⟨rfl, hr, hg⟩
/-- How a reader's method ends: it answers and goes on, or gives up. -/
def Ends {α : Type} (R : Nat) (a : Option Addr) (c : Nat) (l : List Nat) (w : World) (V : α → World → Value → Prop) (r : Except Nat (α × Nat)) (e : Ending) (w' : World) : Prop :=
  w.grownBy w' (some R) ∧
  match r with
  | .ok (x, k) => (∃ v, e = .returned v ∧ V x w' v) ∧ RdAt R w' a c l k
  | .error x => e = .panicked (given x)
theorem number_E (R : Nat) (a : Option Addr) (c : Nat) (l : List Nat) (k : Nat) (w : World) (h : RdAt R w a c l k) (hl : l.length ≤ maxLen) :
    Calls Tryz.prog 95 #[.pointer (some ⟨R, 0, none⟩)] w (Ends R a c l w (fun n _ v => v = .int .i64 ((n : Nat) : Int)) (takeE l k)) := by
  refine (number_reads R a c l k w h hl).mono ?_
  rintro e w' ⟨hg, ⟨h0, rfl, hr⟩ | ⟨h0, rfl, hr⟩⟩
  · refine ⟨hg, ?_⟩
    rw [takeE, if_pos h0]
    exact ⟨⟨_, rfl, rfl⟩, hr⟩
  · refine ⟨hg, ?_⟩
    rw [takeE, if_neg h0]
end Go.Proofs.YtpkpnedcecjlbaaGreatDoor
end
