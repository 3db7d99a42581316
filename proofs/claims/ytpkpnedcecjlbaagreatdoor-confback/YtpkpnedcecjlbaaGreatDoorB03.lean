/- The contracts of wire.within, addNumber and Number. -/
import Derived.Test.YtpkpnedcecjlbaaGreatDoorB01
import Derived.Test.YtpkpnedcecjlbaaGreatDoorB02
import Derived.Laws.Bits128
import Derived.Laws.Pointers
section
namespace Go.Proofs.YtpkpnedcecjlbaaGreatDoor
open Go.ChangeShapes Go.WideShapes Go.ChangeAt Go.RowKit

theorem within_yes (n a b : Int) (w : World) (h : a ≤ n ∧ n ≤ b) : Calls Tryz.prog 85 #[.int .i64 n, .int .i64 a, .int .i64 b] w fun e w' => e = .returned (.bool true) ∧ w' = w := by
  obtain ⟨h1, h2⟩ := h
  go_enter Tryz.func85, Tryz.ntmps85
  go_wp2
  go_ret
  exact ⟨by simp, rfl⟩
theorem within_no (n a b : Int) (w : World) (h : ¬ (a ≤ n ∧ n ≤ b)) : Calls Tryz.prog 85 #[.int .i64 n, .int .i64 a, .int .i64 b] w fun e w' => e = .returned (.bool false) ∧ w' = w := by
  by_cases h1 : a ≤ n
  · have h2 : ¬ n ≤ b := fun h2 => h ⟨h1, h2⟩
    clear h
    go_enter Tryz.func85, Tryz.ntmps85
    go_wp2
    go_ret
    exact ⟨by simp, rfl⟩
  · clear h
    go_enter Tryz.func85, Tryz.ntmps85
    go_wp2
    go_ret
    exact ⟨rfl, rfl⟩

theorem wraps63 (n : Int) (h₀ : 0 ≤ n) (h₁ : n < 2 ^ 63) : IntKind.i64.wrap n = n := by rw [IntKind.wrap_i64]; omega
theorem low_byte (m : Nat) : bits .or .i64 (bits .and .i64 (m : Int) 127) 128 % 256 = ((m % 128 + 128 : Nat) : Int) := by
  rw [i64_and127]
  have h0 : (0 : Int) ≤ (m : Int) % 128 := by omega
  have h1 : (m : Int) % 128 < 128 := by omega
  generalize hy : (m : Int) % 128 = y at *
  have hc : bits .or .i64 y 128 = bits .or .i64 128 y := by simp only [bits, BitVec.or_comm]
  rw [hc, bits_join .i64 63 (by decide) wraps63 7 128 y (by decide) (by decide) (by decide) h0 h1 (by omega)]
  omega

set_option maxRecDepth 20000 in
set_option maxHeartbeats 1000000 in
theorem addNumber_grew (base : Nat) (sp : Option Addr) (n0 c : Nat) (l : List Nat) (n : Nat) (w : World) (hn0 : l.length = n0) (hown : OwnB base w sp c l) (hl : l.length ≤ 1099511627776) (hn : n ≤ 1099511627776) (hbase : base ≤ w.heap.size) :
    Calls Tryz.prog 86 #[.slice sp n0 c, .int .i64 (n : Int)] w fun e w' => ∃ sp' n' c', e = .returned (.slice sp' n' c') ∧ Hid ((l ++ numB n).length = n') ∧ OwnB base w' sp' c' (l ++ numB n) ∧ Grew w sp w' sp' := by
  have HO := hide hown
  have HN := hide hn0
  have HLen := hide (show (l ++ numB n).length ≤ 2199023255553 by rw [List.length_append]; have := (numB_length n).2; omega)
  clear hown hn0
  go_enter Tryz.func86, Tryz.ntmps86
  go_wp2
  go_loopw [0, 1] (fun v i wr => ∃ (sp' : Option Addr) (n' c' : Nat) (l' : List Nat) (m : Nat), m ≤ 1099511627776 ∧ v = .slice sp' n' c' ∧ i = .int .i64 (m : Int) ∧ Hid (l'.length = n') ∧ Hid (OwnB base wr sp' c' l') ∧ Hid (l' ++ numB m = l ++ numB n) ∧ Hid (Grew w sp wr sp')) (fun _ i _ => (intOf i).toNat)
  case atStart => exact ⟨sp, n0, c, l, n, hn, rfl, rfl, unhide HN, unhide HO, rfl, Grew.refl _ _⟩
  case round =>
    obtain ⟨sp', n', c', l', m, hm, rfl, rfl, hl', ho', heq, hbw⟩ := hrel
    have hlen' := hide (show l'.length + 1 ≤ 140737488355328 by
      have h1 := unhide HLen
      rw [← unhide heq, List.length_append] at h1
      have := (numB_length m).1
      omega)
    have hbr : base ≤ wr.heap.size := Nat.le_trans hbase (unhide hbw).grown.size
    by_cases h128 : m < 128
    · have hlit := hide (bytesAt_block (l := [m]) (heap_new wr (.cells #[.int .u8 (m : Int)] 5)) (by intro c hc; simp only [List.mem_cons, List.not_mem_nil, or_false] at hc; omega))
      have bA := hide (show Below wr.heap.size wr (wr.alloc (.cells #[.int .u8 (m : Int)] 5)) from (Below.refl _ _).alloc (Nat.le_refl _) _)
      have heq' := hide (show l' ++ [m] = l ++ numB n by rw [← unhide heq, numB_small h128])
      have hm0 : (m : Int) < 128 := by omega
      go_wp2_with (at_builtin; refine wpList_append8L rfl (.tmp 16) (.tmp 19) rfl base sp' n' c' l' rfl (unhide hl') (by exact (unhide ho').later (unhide bA)) (some ⟨wr.heap.size, 0, none⟩) 1 1 rfl [m] rfl (by exact unhide hlit) (fun h => by cases h) (unhide hlen') (Nat.le_trans hbr (unhide bA).size) ?_; intro sp2 n2 c2 W2 hn2 ho2 hg2 hb2)
      rw [unhide heq'] at hn2 ho2
      go_ret
      exact ⟨sp2, n2, c2, rfl, hn2, ho2, (unhide hbw).trans (Grew.aside (unhide bA) ⟨hg2, hb2⟩)⟩
    · have hlit := hide (bytesAt_block (l := [m % 128 + 128]) (heap_new wr (.cells #[.int .u8 ((m % 128 + 128 : Nat) : Int)] 5)) (by intro c hc; simp only [List.mem_cons, List.not_mem_nil, or_false] at hc; omega))
      have bA := hide (show Below wr.heap.size wr (wr.alloc (.cells #[.int .u8 ((m % 128 + 128 : Nat) : Int)] 5)) from (Below.refl _ _).alloc (Nat.le_refl _) _)
      have heq' := hide (show l' ++ [m % 128 + 128] ++ numB (m / 128) = l ++ numB n by rw [← unhide heq, numB_great h128, List.append_assoc]; rfl)
      have hm0 : ¬ (m : Int) < 128 := by omega
      have hlow := low_byte m
      generalize hq : m % 128 + 128 = q at *
      go_wp2_with (at_builtin; refine wpList_append8L rfl (.tmp 7) (.tmp 12) rfl base sp' n' c' l' rfl (unhide hl') (by exact (unhide ho').later (unhide bA)) (some ⟨wr.heap.size, 0, none⟩) 1 1 rfl [q] rfl (by exact unhide hlit) (fun h => by cases h) (unhide hlen') (Nat.le_trans hbr (unhide bA).size) ?_; intro sp2 n2 c2 W2 hn2 ho2 hg2 hb2)
      have hbn := (unhide hbw).trans (Grew.aside (unhide bA) ⟨hg2, hb2⟩)
      exact ⟨⟨sp2, n2, c2, l' ++ [q], m / 128, by omega, rfl, by go_num, hn2, ho2, unhide heq', hbn⟩, by simp [intOf]; omega⟩
theorem addNumber_calls (base : Nat) (sp : Option Addr) (n0 c : Nat) (l : List Nat) (n : Nat) (w : World) (hn0 : l.length = n0) (hown : OwnB base w sp c l) (hl : l.length ≤ 1099511627776) (hn : n ≤ 1099511627776) (hbase : base ≤ w.heap.size) :
    Calls Tryz.prog 86 #[.slice sp n0 c, .int .i64 (n : Int)] w fun e w' => ∃ sp' n' c', e = .returned (.slice sp' n' c') ∧ Hid ((l ++ numB n).length = n') ∧ OwnB base w' sp' c' (l ++ numB n) ∧ Below base w w' := by
  refine (addNumber_grew base sp n0 c l n w hn0 hown hl hn hbase).mono ?_
  rintro e w' ⟨sp', n', c', he, h1, h2, h3⟩
  exact ⟨sp', n', c', he, h1, h2, h3.below hown hbase⟩
end Go.Proofs.YtpkpnedcecjlbaaGreatDoor
end
/- Readers of wire: bytes that are gone through behind a pointer; giving up. -/
section
namespace Go.Proofs.YtpkpnedcecjlbaaGreatDoor
open Go.ChangeShapes Go.WideShapes Go.ChangeAt Go.RowKit

/-- The panic by which a reader gives up. -/
abbrev given (e : Nat) : List PanicEntry := [{ v := .iface 142 (.agg #[.int .i64 (e : Int)]), recovered := false }]
theorem giveUp_calls (e : Nat) (w : World) : Calls Tryz.prog 110 #[.int .i64 (e : Int)] w fun en w' => en = .panicked (given e) ∧ w' = w := by
  go_enter Tryz.func110, Tryz.ntmps110
  go_wp2
  exact ⟨rfl, rfl, rfl⟩

/-- A reader of bytes: its block, the bytes, the place. -/
structure RdAt (R : Nat) (w : World) (a : Option Addr) (c : Nat) (l : List Nat) (k : Nat) : Prop where
  blk : w.heap[R]? = some (.cells #[.slice a l.length c, .int .i64 (k : Int)] 129 (0, 0))
  bytes : BytesAt w a l
  low : ∀ b off, 0 < l.length → a = some ⟨b, off, none⟩ → b ≠ R
  le : k ≤ l.length

theorem RdAt.c0 {R : Nat} {w : World} {a : Option Addr} {c : Nat} {l : List Nat} {k : Nat} (h : RdAt R w a c l k) : w.cell? ⟨R, 0, none⟩ = some (.slice a l.length c) := by
  rw [cell_of_row w R 0 _ _ _ h.blk]; rfl
theorem RdAt.c1 {R : Nat} {w : World} {a : Option Addr} {c : Nat} {l : List Nat} {k : Nat} (h : RdAt R w a c l k) : w.cell? ⟨R, 1, none⟩ = some (.int .i64 (k : Int)) := by
  rw [cell_of_row w R 1 _ _ _ h.blk]; rfl
theorem RdAt.f1 {R : Nat} {w : World} {a : Option Addr} {c : Nat} {l : List Nat} {k : Nat} (h : RdAt R w a c l k) : w.frozen? ⟨R, 1, none⟩ = false := by
  simp [World.frozen?, h.blk]
/-- The place moves; other blocks than the reader's stay. -/
theorem RdAt.moved {R : Nat} {w : World} {a : Option Addr} {c : Nat} {l : List Nat} {k : Nat} (h : RdAt R w a c l k) (k' : Nat) (hk : k' ≤ l.length) : RdAt R (w.setCell ⟨R, 1, none⟩ (.int .i64 (k' : Int))) a c l k' := by
  have hg := grown_set w R 1 (.int .i64 (k' : Int))
  refine ⟨?_, ?_, h.low, hk⟩
  · have := heap_setCell_same w R 1 _ 129 (.int .i64 (k' : Int)) h.blk
    simpa using this
  · refine ⟨h.bytes.lt, fun i hi => ?_⟩
    obtain ⟨b, off, h1, h2⟩ := h.bytes.cell i hi
    refine ⟨b, off, h1, ?_⟩
    rw [hg.cell_far ⟨b, off + i, none⟩ (World.block_lt_of_cell? _ _ h2) (by simpa using h.low b off (by omega) h1)]
    exact h2
theorem RdAt.drewN {R : Nat} {w : World} {a : Option Addr} {c : Nat} {l : List Nat} {k : Nat} (h : RdAt R w a c l k) (n : Nat) : RdAt R (w.drewN n) a c l k := ⟨h.blk, ⟨h.bytes.lt, h.bytes.cell⟩, h.low, h.le⟩
theorem grown_drewN (w : World) (n : Nat) (row : Option Nat) : w.grownBy (w.drewN n) row := ⟨rfl, rfl, rfl, Nat.le_refl _, fun _ _ _ => rfl⟩

theorem one_short (R : Nat) (a : Option Addr) (c : Nat) (l : List Nat) (k : Nat) (w : World) (h : RdAt R w a c l k) (hk : k = l.length) :
    Calls Tryz.prog 109 #[.pointer (some ⟨R, 0, none⟩)] w fun e w' => e = .panicked (given 3) ∧ RdAt R w' a c l k ∧ w.grownBy w' (some R) := by
  have c0 := h.c0
  have c1 := h.c1
  subst hk
  have H := hide h
  clear h
  go_enter Tryz.func109, Tryz.ntmps109
  go_wp2_with fail
  go_quiet (fail)
  go_wp2_with fail
  refine (giveUp_calls 3 _).mono ?_
  rintro e w' ⟨rfl, rfl⟩
  go_wp2
  exact ⟨rfl, rfl, (unhide H).drewN _, grown_drewN _ _ _⟩
theorem one_ok (R : Nat) (a : Option Addr) (c : Nat) (l : List Nat) (k : Nat) (w : World) (h : RdAt R w a c l k) (hk : k < l.length) (hl : l.length ≤ maxLen) :
    Calls Tryz.prog 109 #[.pointer (some ⟨R, 0, none⟩)] w fun e w' => e = .returned (.int .u8 ((l.getD k 0 : Nat) : Int)) ∧ RdAt R w' a c l (k + 1) ∧ w.grownBy w' (some R) := by
  have c0 := h.c0
  have c1 := h.c1
  have f1 := h.f1
  obtain ⟨b, off, rfl, hc⟩ := h.bytes.cell k hk
  have H := hide h
  have H1 := hide hk
  unfold maxLen at hl
  clear h
  generalize l.getD k 0 = x at *
  have hne : ¬ k = l.length := by omega
  go_enter Tryz.func109, Tryz.ntmps109
  go_wp2_with fail
  go_quiet (fail)
  go_wp2_with fail
  go_quiet (fail)
  go_wp2
  go_ret
  exact ⟨rfl, ((unhide H).drewN _).moved (k + 1) (unhide H1), grown_trans (grown_drewN _ _ _) (grown_set _ _ _ _)⟩
end Go.Proofs.YtpkpnedcecjlbaaGreatDoor
end
/- Plain: the number at a place of bytes. -/
section
namespace Go.Proofs.YtpkpnedcecjlbaaGreatDoor

/-- What is read from a place on: the error, the number, the place behind; 's' bytes are read already, and 'n' of them. -/
def takeF (l : List Nat) : Nat → Nat → Nat → Nat → Nat × Nat × Nat
  | 0, _, _, k => (6, 0, k)
  | f + 1, s, n, k =>
    if l.length ≤ k then (3, 0, k)
    else if 128 ≤ l.getD k 0 then (if f = 0 then (6, 0, k + 1) else takeF l f (s + 1) (n + l.getD k 0 % 128 * 128 ^ s) (k + 1))
    else if l.getD k 0 = 0 ∧ 0 < s then (4, 0, k + 1)
    else if 1099511627776 < n + l.getD k 0 * 128 ^ s then (6, 0, k + 1)
    else (0, n + l.getD k 0 * 128 ^ s, k + 1)
def takeN (l : List Nat) (k : Nat) : Nat × Nat × Nat := takeF l 6 0 0 k
theorem takeF_short {l : List Nat} {k : Nat} (f s m : Nat) (hk : ¬ k < l.length) : takeF l (f + 1) s m k = (3, 0, k) := by
  rw [takeF, if_pos (by omega)]
theorem takeF_more {l : List Nat} {k x : Nat} (f s m : Nat) (hx : l.getD k 0 = x) (hk : k < l.length) (h : 128 ≤ x) (hf : f ≠ 0) : takeF l (f + 1) s m k = takeF l f (s + 1) (m + x % 128 * 128 ^ s) (k + 1) := by
  rw [takeF, if_neg (by omega), hx, if_pos h, if_neg hf]
theorem takeF_last {l : List Nat} {k x : Nat} (s m : Nat) (hx : l.getD k 0 = x) (hk : k < l.length) (h : 128 ≤ x) : takeF l (0 + 1) s m k = (6, 0, k + 1) := by
  rw [takeF, if_neg (by omega), hx, if_pos h, if_pos rfl]
theorem takeF_form {l : List Nat} {k x : Nat} (f s m : Nat) (hx : l.getD k 0 = x) (hk : k < l.length) (h : x = 0) (hs : 0 < s) : takeF l (f + 1) s m k = (4, 0, k + 1) := by
  rw [takeF, if_neg (by omega), hx, if_neg (by omega), if_pos ⟨h, hs⟩]
theorem takeF_big {l : List Nat} {k x : Nat} (f s m : Nat) (hx : l.getD k 0 = x) (hk : k < l.length) (h : ¬ 128 ≤ x) (h0 : ¬ (x = 0 ∧ 0 < s)) (hb : 1099511627776 < m + x * 128 ^ s) : takeF l (f + 1) s m k = (6, 0, k + 1) := by
  rw [takeF, if_neg (by omega), hx, if_neg h, if_neg h0, if_pos hb]
theorem takeF_ok {l : List Nat} {k x : Nat} (f s m : Nat) (hx : l.getD k 0 = x) (hk : k < l.length) (h : ¬ 128 ≤ x) (h0 : ¬ (x = 0 ∧ 0 < s)) (hb : ¬ 1099511627776 < m + x * 128 ^ s) : takeF l (f + 1) s m k = (0, m + x * 128 ^ s, k + 1) := by
  rw [takeF, if_neg (by omega), hx, if_neg h, if_neg h0, if_neg hb]
/-- The number at a place and the place behind it, or the error. -/
def takeE (l : List Nat) (k : Nat) : Except Nat (Nat × Nat) := if (takeN l k).1 = 0 then .ok ((takeN l k).2.1, (takeN l k).2.2) else .error (takeN l k).1
/-- A hard state from a place on. -/
def hardE (l : List Nat) (k : Nat) : Except Nat ((Nat × Nat) × Nat) :=
  match takeE l k with
  | .error x => .error x
  | .ok (t, k) =>
    match takeE l k with
    | .error x => .error x
    | .ok (v, k) => if 9 < v then .error 4 else .ok ((t, v), k)
/-- Nothing stands behind. -/
def wholeE {α : Type} (l : List Nat) (r : Except Nat (α × Nat)) : Except Nat α :=
  match r with
  | .error x => .error x
  | .ok (x, k) => if k < l.length then .error 4 else .ok x
theorem takeE_pos {l : List Nat} {k x : Nat} (h : takeE l k = .error x) : x ≠ 0 := by
  unfold takeE at h
  split at h
  · cases h
  · cases h; assumption
theorem hardE_pos {l : List Nat} {k x : Nat} (h : hardE l k = .error x) : x ≠ 0 := by
  unfold hardE at h
  split at h
  · next h1 => cases h; exact takeE_pos h1
  · split at h
    · next h1 => cases h; exact takeE_pos h1
    · split at h
      · cases h; decide
      · cases h
theorem wholeE_pos {α : Type} {l : List Nat} {r : Except Nat (α × Nat)} {x : Nat} (h : wholeE l r = .error x) (hr : ∀ y, r = .error y → y ≠ 0) : x ≠ 0 := by
  unfold wholeE at h
  split at h
  · cases h; exact hr _ rfl
  · split at h
    · cases h; decide
    · cases h
/-- A byte from a to b. -/
def oneE (l : List Nat) (a b k : Nat) : Except Nat (Nat × Nat) := if k < l.length then (if a ≤ l.getD k 0 ∧ l.getD k 0 ≤ b then .ok (l.getD k 0, k + 1) else .error 4) else .error 3
def posE (l : List Nat) (k : Nat) : Except Nat (Nat × Nat) :=
  match takeE l k with
  | .error x => .error x
  | .ok (n, k) => if n = 0 then .error 4 else .ok (n, k)
def sizeE (l : List Nat) (kind k : Nat) : Except Nat (Nat × Nat) :=
  match takeE l k with
  | .error x => .error x
  | .ok (n, k) => if kind = 1 ∧ 0 < n then .error 4 else if 2048 < n then .error 6 else .ok (n, k)
def dataE (l : List Nat) (n k : Nat) : Except Nat (List Nat × Nat) := if l.length - k < n then .error 3 else .ok ((l.drop k).take n, k + n)
/-- An entry from a place on. -/
def entryE (l : List Nat) (k : Nat) : Except Nat ((Nat × Nat × Nat × List Nat) × Nat) :=
  match oneE l 1 3 k with
  | .error x => .error x
  | .ok (kd, k) =>
    match posE l k with
    | .error x => .error x
    | .ok (t, k) =>
      match posE l k with
      | .error x => .error x
      | .ok (i, k) =>
        match sizeE l kd k with
        | .error x => .error x
        | .ok (n, k) =>
          match dataE l n k with
          | .error x => .error x
          | .ok (d, k) => .ok ((kd, t, i, d), k)
theorem oneE_pos {l : List Nat} {a b k x : Nat} (h : oneE l a b k = .error x) : x ≠ 0 := by
  unfold oneE at h
  split at h
  · split at h
    · cases h
    · cases h; decide
  · cases h; decide
theorem posE_pos {l : List Nat} {k x : Nat} (h : posE l k = .error x) : x ≠ 0 := by
  unfold posE at h
  split at h
  · next h1 => cases h; exact takeE_pos h1
  · split at h
    · cases h; decide
    · cases h
theorem sizeE_pos {l : List Nat} {kd k x : Nat} (h : sizeE l kd k = .error x) : x ≠ 0 := by
  unfold sizeE at h
  split at h
  · next h1 => cases h; exact takeE_pos h1
  · split at h
    · cases h; decide
    · split at h
      · cases h; decide
      · cases h
theorem dataE_pos {l : List Nat} {n k x : Nat} (h : dataE l n k = .error x) : x ≠ 0 := by
  unfold dataE at h
  split at h
  · cases h; decide
  · cases h
theorem entryE_pos {l : List Nat} {k x : Nat} (h : entryE l k = .error x) : x ≠ 0 := by
  unfold entryE at h
  split at h
  · next h1 => cases h; exact oneE_pos h1
  · split at h
    · next h1 => cases h; exact posE_pos h1
    · split at h
      · next h1 => cases h; exact posE_pos h1
      · split at h
        · next h1 => cases h; exact sizeE_pos h1
        · split at h
          · next h1 => cases h; exact dataE_pos h1
          · cases h
/-- Bytes with their length ahead. -/
def rowE (l : List Nat) (most k : Nat) : Except Nat (List Nat × Nat) :=
  match takeE l k with
  | .error x => .error x
  | .ok (n, k) => if most < n then .error 6 else dataE l n k
theorem rowE_pos {l : List Nat} {most k x : Nat} (h : rowE l most k = .error x) : x ≠ 0 := by
  unfold rowE at h
  split at h
  · next h1 => cases h; exact takeE_pos h1
  · split at h
    · cases h; decide
    · exact dataE_pos h
end Go.Proofs.YtpkpnedcecjlbaaGreatDoor
end
