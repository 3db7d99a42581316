/- The contracts of wire.within, addNumber and Number. -/
import Derived.Test.YtpkpnedcecjlbaaGreatDoorB01
import Derived.Test.YtpkpnedcecjlbaaGreatDoorB02
import Derived.Laws.Bits128
namespace Go.Proofs.YtpkpnedcecjlbaaGreatDoor
open Go.ChangeShapes Go.WideShapes Go.ChangeAt Go.RowKit

theorem within_yes (n a b : Int) (w : World) (h : a ≤ n ∧ n ≤ b) : Calls Tryz.prog 85 #[.int .i64 n, .int .i64 a, .int .i64 b] w fun e w' => e = .returned (.bool true) ∧ w' = w := by
  obtain ⟨h1, h2⟩ := h
  go_enter Tryz.func85, Tryz.ntmps85
  go_wp2
  go_ret
  exact ⟨by simp, rfl⟩
theorem within_no (n a b : Int) (w : World) (h : ¬ (a ≤ n ∧ n ≤ b)) : Calls Tryz.prog 85 #[.int .i64 n, .int .i64 a, .int .i64 b] w fun e w' => e = .returned (.bool false) ∧ w' = w := by
  by_cases h1 : a ≤ n
  · have h2 : ¬ n ≤ b := fun h2 => h ⟨h1, h2⟩
    clear h
    go_enter Tryz.func85, Tryz.ntmps85
    go_wp2
    go_ret
    exact ⟨by simp, rfl⟩
  · clear h
    go_enter Tryz.func85, Tryz.ntmps85
    go_wp2
    go_ret
    exact ⟨rfl, rfl⟩

theorem wraps63 (n : Int) (h₀ : 0 ≤ n) (h₁ : n < 2 ^ 63) : IntKind.i64.wrap n = n := by rw [IntKind.wrap_i64]; omega
theorem low_byte (m : Nat) : bits .or .i64 (bits .and .i64 (m : Int) 127) 128 % 256 = ((m % 128 + 128 : Nat) : Int) := by
  rw [i64_and127]
  have h0 : (0 : Int) ≤ (m : Int) % 128 := by omega
  have h1 : (m : Int) % 128 < 128 := by omega
  generalize hy : (m : Int) % 128 = y at *
  have hc : bits .or .i64 y 128 = bits .or .i64 128 y := by simp only [bits, BitVec.or_comm]
  rw [hc, bits_join .i64 63 (by decide) wraps63 7 128 y (by decide) (by decide) (by decide) h0 h1 (by omega)]
  omega

set_option maxRecDepth 20000 in
set_option maxHeartbeats 1000000 in
theorem addNumber_grew (base : Nat) (sp : Option Addr) (n0 c : Nat) (l : List Nat) (n : Nat) (w : World) (hn0 : l.length = n0) (hown : OwnB base w sp c l) (hl : l.length ≤ 1099511627776) (hn : n ≤ 1099511627776) (hbase : base ≤ w.heap.size) :
    Calls Tryz.prog 86 #[.slice sp n0 c, .int .i64 (n : Int)] w fun e w' => ∃ sp' n' c', e = .returned (.slice sp' n' c') ∧ Hid ((l ++ numB n).length = n') ∧ OwnB base w' sp' c' (l ++ numB n) ∧ Grew w sp w' sp' := by
  have HO := hide hown
  have HN := hide hn0
  have HLen := hide (show (l ++ numB n).length ≤ 2199023255553 by rw [List.length_append]; have := (numB_length n).2; omega)
  clear hown hn0
  go_enter Tryz.func86, Tryz.ntmps86
  go_wp2
  go_loopw [0, 1] (fun v i wr => ∃ (sp' : Option Addr) (n' c' : Nat) (l' : List Nat) (m : Nat), m ≤ 1099511627776 ∧ v = .slice sp' n' c' ∧ i = .int .i64 (m : Int) ∧ Hid (l'.length = n') ∧ Hid (OwnB base wr sp' c' l') ∧ Hid (l' ++ numB m = l ++ numB n) ∧ Hid (Grew w sp wr sp')) (fun _ i _ => (intOf i).toNat)
  case atStart => exact ⟨sp, n0, c, l, n, hn, rfl, rfl, unhide HN, unhide HO, rfl, Grew.refl _ _⟩
  case round =>
    obtain ⟨sp', n', c', l', m, hm, rfl, rfl, hl', ho', heq, hbw⟩ := hrel
    have hlen' := hide (show l'.length + 1 ≤ 140737488355328 by
      have h1 := unhide HLen
      rw [← unhide heq, List.length_append] at h1
      have := (numB_length m).1
      omega)
    have hbr : base ≤ wr.heap.size := Nat.le_trans hbase (unhide hbw).grown.size
    by_cases h128 : m < 128
    · have hlit := hide (bytesAt_block (l := [m]) (heap_new wr (.cells #[.int .u8 (m : Int)] 5)) (by intro c hc; simp only [List.mem_cons, List.not_mem_nil, or_false] at hc; omega))
      have bA := hide (show Below wr.heap.size wr (wr.alloc (.cells #[.int .u8 (m : Int)] 5)) from (Below.refl _ _).alloc (Nat.le_refl _) _)
      have heq' := hide (show l' ++ [m] = l ++ numB n by rw [← unhide heq, numB_small h128])
      have hm0 : (m : Int) < 128 := by omega
      go_wp2_with (at_builtin; refine wpList_append8L rfl (.tmp 16) (.tmp 19) rfl base sp' n' c' l' rfl (unhide hl') (by exact (unhide ho').later (unhide bA)) (some ⟨wr.heap.size, 0, none⟩) 1 1 rfl [m] rfl (by exact unhide hlit) (fun h => by cases h) (unhide hlen') (Nat.le_trans hbr (unhide bA).size) ?_; intro sp2 n2 c2 W2 hn2 ho2 hg2 hb2)
      rw [unhide heq'] at hn2 ho2
      go_ret
      exact ⟨sp2, n2, c2, rfl, hn2, ho2, (unhide hbw).trans (Grew.aside (unhide bA) ⟨hg2, hb2⟩)⟩
    · have hlit := hide (bytesAt_block (l := [m % 128 + 128]) (heap_new wr (.cells #[.int .u8 ((m % 128 + 128 : Nat) : Int)] 5)) (by intro c hc; simp only [List.mem_cons, List.not_mem_nil, or_false] at hc; omega))
      have bA := hide (show Below wr.heap.size wr (wr.alloc (.cells #[.int .u8 ((m % 128 + 128 : Nat) : Int)] 5)) from (Below.refl _ _).alloc (Nat.le_refl _) _)
      have heq' := hide (show l' ++ [m % 128 + 128] ++ numB (m / 128) = l ++ numB n by rw [← unhide heq, numB_great h128, List.append_assoc]; rfl)
      have hm0 : ¬ (m : Int) < 128 := by omega
      have hlow := low_byte m
      generalize hq : m % 128 + 128 = q at *
      go_wp2_with (at_builtin; refine wpList_append8L rfl (.tmp 7) (.tmp 12) rfl base sp' n' c' l' rfl (unhide hl') (by exact (unhide ho').later (unhide bA)) (some ⟨wr.heap.size, 0, none⟩) 1 1 rfl [q] rfl (by exact unhide hlit) (fun h => by cases h) (unhide hlen') (Nat.le_trans hbr (unhide bA).size) ?_; intro sp2 n2 c2 W2 hn2 ho2 hg2 hb2)
      have hbn := (unhide hbw).trans (Grew.aside (unhide bA) ⟨hg2, hb2⟩)
      exact ⟨⟨sp2, n2, c2, l' ++ [q], m / 128, by omega, rfl, by go_num, hn2, ho2, unhide heq', hbn⟩, by simp [intOf]; omega⟩
theorem addNumber_calls (base : Nat) (sp : Option Addr) (n0 c : Nat) (l : List Nat) (n : Nat) (w : World) (hn0 : l.length = n0) (hown : OwnB base w sp c l) (hl : l.length ≤ 1099511627776) (hn : n ≤ 1099511627776) (hbase : base ≤ w.heap.size) :
    Calls Tryz.prog 86 #[.slice sp n0 c, .int .i64 (n : Int)] w fun e w' => ∃ sp' n' c', e = .returned (.slice sp' n' c') ∧ Hid ((l ++ numB n).length = n') ∧ OwnB base w' sp' c' (l ++ numB n) ∧ Below base w w' := by
  refine (addNumber_grew base sp n0 c l n w hn0 hown hl hn hbase).mono ?_
  rintro e w' ⟨sp', n', c', he, h1, h2, h3⟩
  exact ⟨sp', n', c', he, h1, h2, h3.below hown hbase⟩
end Go.Proofs.YtpkpnedcecjlbaaGreatDoor
