/- Heads: whether a letter stands among the ASCII letters of a text. -/
import Derived.Test.YtcmiappiocfbiaaGreatDoorBas
import Derived.Test.YtcmiappiocfbiaaGreatDoorShl
import Derived.Test.YtcmiappiocfbiaaGreatDoorHd0
import Derived.Laws.RangeAny
import Derived.Laws.Runes
import Derived.Scope
import Derived.Deep.RegionHeld3
namespace Go.Proofs.YtcmiappiocfbiaaGreatDoor
open Go.ChangeShapes Go.WideShapes Go.ChangeAt Go.RowKit

theorem box_cell {w : World} {j : Nat} {cs : Array Value} {T : TypeId} (h : w.heap[j]? = some (.cells cs T (0, 0))) (f : Nat) (v : Value) (hv : cs[f]? = some v) : w.cell? ⟨j, f, none⟩ = some v := by
  rw [cell_of_row _ _ _ _ _ _ h, hv]
theorem later_block {w w' : World} {j : Nat} {o : Obj} (hb : Below w.heap.size w w') (h : w.heap[j]? = some o) : w'.heap[j]? = some o := (hb.block j (Array.getElem?_eq_some_iff.1 h).1).trans h
/-- The last byte of a letter beyond ASCII. -/
theorem enc_last (r : Int) (h : 128 ≤ r) : ∃ n, (Utf8.encode r).size = n + 1 ∧ 1 ≤ n ∧ n ≤ 3 ∧ ∃ x : UInt8, (Utf8.encode r).data[n]? = some x ∧ 128 ≤ x.toNat := by
  unfold Utf8.encode
  generalize hc : (if Utf8.valid r = true then r.toNat else Utf8.runeError) = c
  have hc1 : 128 ≤ c := by
    rw [← hc]; split
    · omega
    · decide
  have hl : ∀ m : Nat, 128 ≤ (UInt8.ofNat (128 + m % 64)).toNat := fun m => by simp; omega
  simp only
  rw [if_neg (by omega)]
  split
  · exact ⟨1, rfl, by omega, by omega, _, rfl, hl _⟩
  · split
    · exact ⟨2, rfl, by omega, by omega, _, rfl, hl _⟩
    · exact ⟨3, rfl, by omega, by omega, _, rfl, hl _⟩
theorem idxByte_no {l : Tx} {x : UInt8} (h : ∀ b ∈ l, b ≠ x) : Lib.indexByte l x = -1 := by
  induction l with
  | nil => rfl
  | cons a t ih => unfold Lib.indexByte; rw [ih (fun b hb => h b (List.mem_cons_of_mem _ hb)), if_neg (by simpa using h a (List.mem_cons_self ..))]; rfl
set_option maxRecDepth 20000 in
set_option maxHeartbeats 4000000 in
theorem idxRune_hi (s : ByteArray) (r : Int) (w : World) (h4 : 4 ≤ s.size) (hs : s.size ≤ 100) (ha : ∀ b ∈ s.data.toList, b.toNat < 128) (hr : 128 ≤ r) (hm : r ≤ 2147483647) (he : r ≠ 65533) :
    Calls Tryz.prog 125 #[.string s, .int .i32 r] w fun e w' => e = .returned (.int .i64 (-1)) ∧ Below w.heap.size w w' := by
  obtain ⟨n, hn, h1, h3, x, hx, hx8⟩ := enc_last r hr
  have g1 : ¬ r < 128 := by omega
  have g2 : ¬ r = 65533 := he
  cases hv : Lib.validRune r with
  | false =>
    go_enter Tryz.func125, Tryz.ntmps125
    go_wp2_with (go_at_call 133; refine (Tryz.utf8_ValidRune _ _).mono ?_; rintro e w' ⟨rfl, rfl⟩; rw [hv])
    go_ret
    exact ⟨rfl, Below.refl _ _⟩
  | true =>
    have kc : ∀ W, (convert 21 9 (.int .i32 r)).run Tryz.prog W = .ok (.string (Utf8.encode r)) W := fun W => run_convert_int_string W _ _ _ _ (by rw [Tryz.underlying21]; rfl) Tryz.underlying9
    generalize Utf8.encode r = rs at *
    go_enter Tryz.func125, Tryz.ntmps125
    go_wp2_with (go_at_call 133; refine (Tryz.utf8_ValidRune _ _).mono ?_; rintro e w' ⟨rfl, rfl⟩; rw [hv])
    refine wp_scope_straight ?_
    have hx1 : n < rs.size := by omega
    have hx2 : rs[n]'hx1 = x := by
      have : rs.data[n]? = some (rs[n]'hx1) := Array.getElem?_eq_getElem hx1
      rw [hx] at this; exact (Option.some.inj this).symm
    have hn2 : n < s.size := by omega
    have hx3 : ((s[n]'hn2).toNat : Int) ≠ (x.toNat : Int) := by
      have := ha (s[n]'hn2) (by rw [Array.mem_toList_iff]; exact Array.getElem_mem hn2)
      omega
    have hx4 : (((s[n]'hn2).toNat : Int) != (x.toNat : Int)) = true := by simpa using hx3
    have hib : ∀ W, Calls Tryz.prog 132 #[.string (s.extract (n + 1) s.size), .int .u8 (x.toNat : Int)] W fun e w' => e = .returned (.int .i64 (-1)) ∧ w' = W := fun W => by
      refine (Tryz.strings_IndexByte _ _ W).mono ?_
      rintro e w' ⟨rfl, rfl⟩
      refine ⟨?_, rfl⟩
      rw [idxByte_no]
      intro b hb hbx
      have := ha b (by simp [ByteArray.data_extract] at hb; exact List.mem_of_mem_drop (List.mem_of_mem_take hb))
      rw [hbx] at this
      simp at this
      omega
    have HIB := hide hib
    have hwn : IntKind.i64.wrap ((n : Int) + 1) = (n : Int) + 1 := by rw [IntKind.wrap_i64]; omega
    have hsl : ∀ W, (Instr.sliceAt 9 (.string s) (some (.int .i64 ((n : Int) + 1))) none none).run Tryz.prog W = .ok (.string (s.extract (n + 1) s.size)) W := fun W => by
      rw [run_sliceAt_string _ _ _ _ _ _ Tryz.underlying9, run_slice_string_l _ _ _ Tryz.underlying9 _ _ (by omega) (by omega)]
      rfl
    have hwn2 : ((n : Int) + 1).toNat = n + 1 := by omega
    have hwn3 : (n : Int) + 1 ≤ (s.size : Int) := by omega
    clear hib hx ha
    go_wp2_with fail
    refine wp_loop_once ?_
    go_wp2_with fail
    refine wp_scope_straight ?_
    go_wp2_with fail
    go_quiet (fail)
    go_wp2_with fail
    go_region_held3 (fun w' => True) (trivial) (first
      | (go_at_call 132; refine (unhide HIB _).mono ?_; rintro e w' ⟨rfl, rfl⟩))
    go_wp2_with fail
    simp (config := { zetaDelta := true }) only [Exit.inBlock, Exit.then, Exit.noGoto]
    go_ret
    exact ⟨rfl, below_drewN (Below.refl _ _) _⟩
theorem below_iter (w : World) (s : ByteArray) (pos : Nat) : Below w.heap.size w (w.iter s pos) := (Below.refl _ _).alloc (Nat.le_refl _) _
set_option maxRecDepth 20000 in
set_option maxHeartbeats 4000000 in
theorem idxRune_err (s : ByteArray) (w : World) (ha : ∀ b ∈ s.data.toList, b.toNat < 128) :
    Calls Tryz.prog 125 #[.string s, .int .i32 65533] w fun e w' => e = .returned (.int .i64 (-1)) ∧ Below w.heap.size w w' := by
  go_enter Tryz.func125, Tryz.ntmps125
  go_wp2
  go_loopw [] (fun w' => ∃ pos : Nat, w' = w.iter s pos) (fun w' => s.size - w'.iterPos w.heap.size)
  case atStart => exact ⟨0, rfl⟩
  case round =>
    obtain ⟨pos, rfl⟩ := hrel
    by_cases hp : pos < s.size
    · have h8 := ha (s[pos]'hp) (by rw [Array.mem_toList_iff]; exact Array.getElem_mem hp)
      have hnx : ∀ ty, (Instr.next (.pointer (some ⟨w.heap.size, 0, none⟩)) true ty).run Tryz.prog (w.iter s pos) = _ := fun ty => run_next_ascii w s pos ty hp h8
      have hne : (((s[pos]'hp).toNat : Int) == 65533) = false := by simp; omega
      go_wp2
      go_roundw
      case rel => exact ⟨pos + 1, rfl⟩
      case measure => simp; omega
    · have hnx : ∀ ty, (Instr.next (.pointer (some ⟨w.heap.size, 0, none⟩)) true ty).run Tryz.prog (w.iter s pos) = _ := fun ty => run_next_end w s pos ty hp
      go_wp2
      go_ret
      exact ⟨rfl, below_iter _ _ _⟩
def inS (s : Tx) (r : Int) : Bool := s.any (fun b => (b.toNat : Int) == r)
theorem idxByte_in (l : Tx) (r : Int) (h0 : 0 ≤ r) (h1 : r < 256) : decide (0 ≤ Lib.indexByte l r.toNat.toUInt8) = inS l r := by
  have hb : ∀ b : UInt8, (b == r.toNat.toUInt8) = ((b.toNat : Int) == r) := fun b => by
    rw [Bool.eq_iff_iff, beq_iff_eq, beq_iff_eq, ← UInt8.toNat_inj]
    simp
    omega
  induction l with
  | nil => rfl
  | cons a t ih =>
    unfold Lib.indexByte inS
    rw [List.any_cons, hb]
    cases he : ((a.toNat : Int) == r) with
    | true => simp
    | false =>
      have ih2 : decide (0 ≤ Lib.indexByte t r.toNat.toUInt8) = t.any (fun b => (b.toNat : Int) == r) := ih
      rw [Bool.false_or, ← ih2]
      have := Lib.indexByte_ge t r.toNat.toUInt8
      simp only [Bool.false_eq_true, if_false]
      split
      · rename_i h; rw [beq_iff_eq.1 h]
      · rename_i h
        have h' : ¬ Lib.indexByte t r.toNat.toUInt8 = -1 := fun e => h (by rw [e]; rfl)
        rw [decide_eq_decide]; omega
set_option maxHeartbeats 1000000 in
theorem hasRune_lo (s : ByteArray) (r : Int) (w : World) (h0 : 0 ≤ r) (h1 : r < 128) :
    Calls Tryz.prog 112 #[.string s, .int .i32 r] w fun e w' => e = .returned (.bool (inS s.data.toList r)) ∧ w' = w := by
  rw [← idxByte_in _ _ h0 (by omega)]
  exact Tryz.strings_ContainsRune_ascii s r w h0 h1
set_option maxHeartbeats 1000000 in
theorem hasRune_hi (s : ByteArray) (r : Int) (w : World) (h4 : 4 ≤ s.size) (hs : s.size ≤ 100) (ha : ∀ b ∈ s.data.toList, b.toNat < 128) (hr : 128 ≤ r) (hm : r ≤ 2147483647) :
    Calls Tryz.prog 112 #[.string s, .int .i32 r] w fun e w' => e = .returned (.bool false) ∧ Below w.heap.size w w' := by
  have HI : Hid (Calls Tryz.prog 125 #[.string s, .int .i32 r] w fun e w' => e = .returned (.int .i64 (-1)) ∧ Below w.heap.size w w') := by
    by_cases he : r = 65533
    · subst he; exact idxRune_err s w ha
    · exact idxRune_hi s r w h4 hs ha hr hm he
  clear ha
  go_enter Tryz.func112, Tryz.ntmps112
  go_wp2_with (go_at_call 125; refine (unhide HI).mono ?_; rintro e w' ⟨rfl, hb⟩)
  go_ret
  exact ⟨rfl, hb⟩
theorem between_calls (c lo hi : Int) (w : World) : Calls Tryz.prog 131 #[.int .i32 c, .int .i32 lo, .int .i32 hi] w fun e w' => e = .returned (.bool (decide (lo ≤ c ∧ c ≤ hi))) ∧ w' = w := by
  by_cases h1 : lo ≤ c
  · by_cases h2 : c ≤ hi
    · rw [decide_eq_true ⟨h1, h2⟩]
      go_enter Tryz.func131, Tryz.ntmps131
      go_wp2
      go_ret
      exact ⟨rfl, rfl⟩
    · rw [decide_eq_false (fun h => h2 h.2)]
      go_enter Tryz.func131, Tryz.ntmps131
      go_wp2
      go_ret
      exact ⟨rfl, rfl⟩
  · rw [decide_eq_false (fun h => h1 h.1)]
    go_enter Tryz.func131, Tryz.ntmps131
    go_wp2
    go_ret
    exact ⟨rfl, rfl⟩
end Go.Proofs.YtcmiappiocfbiaaGreatDoor
