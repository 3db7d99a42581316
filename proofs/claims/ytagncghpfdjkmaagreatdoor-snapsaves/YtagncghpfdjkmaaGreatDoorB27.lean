/- The document's number behind a word in a name. -/
import Derived.Test.YtagncghpfdjkmaaGreatDoorB26
section
namespace Go.Proofs.YtagncghpfdjkmaaGreatDoor
open Go.ChangeShapes Go.WideShapes Go.ChangeAt Go.RowKit
set_option linter.unusedVariables false

/-- The value of digits. -/
def valD : List UInt8 → Nat → Nat
  | [], n => n
  | c :: r, n => valD r (n * 10 + (c.toNat - 48))
theorem valD_app : ∀ (a b : List UInt8) (n : Nat), valD (a ++ b) n = valD b (valD a n)
  | [], b, n => rfl
  | c :: r, b, n => valD_app r b _
theorem val_dec (n : Nat) : valD (Lib.decDigits n) 0 = n := by
  induction n using Nat.strongRecOn with
  | _ n ih =>
    by_cases h : n < 10
    · rw [dec_small h]
      show 0 * 10 + ((UInt8.ofNat (48 + n)).toNat - 48) = n
      have : (UInt8.ofNat (48 + n)).toNat = 48 + n := by simp; omega
      rw [this]
      omega
    · rw [dec_big h, valD_app, ih (n / 10) (by omega)]
      show n / 10 * 10 + ((UInt8.ofNat (48 + n % 10)).toNat - 48) = n
      have : (UInt8.ofNat (48 + n % 10)).toNat = 48 + n % 10 := by simp; omega
      rw [this]
      omega
theorem valD_lt : ∀ (l : List UInt8) (n k : Nat), (∀ c ∈ l, c.toNat ≤ 57) → n < 10 ^ k → valD l n < 10 ^ (k + l.length)
  | [], n, k, _, h => h
  | c :: r, n, k, hc, h => by
    have h1 := hc c List.mem_cons_self
    have h2 : n * 10 + (c.toNat - 48) < 10 ^ (k + 1) := by rw [Nat.pow_succ]; omega
    have := valD_lt r _ (k + 1) (fun x hx => hc x (List.mem_cons_of_mem _ hx)) h2
    rw [List.length_cons, show k + (r.length + 1) = k + 1 + r.length by omega]
    exact this
def digD (l : List UInt8) : Bool := l.all (fun c => decide (48 ≤ c.toNat ∧ c.toNat ≤ 57))
/-- The number behind a word in a name; 0: it is none. -/
def numRw (wd s : Nm) : Nat := if wd.length < s.length ∧ s.length ≤ wd.length + 13 ∧ s.take wd.length = wd ∧ digD (s.drop wd.length) = true ∧ valD (s.drop wd.length) 0 ≤ 1099511627776 ∧ Lib.decDigits (valD (s.drop wd.length) 0) = s.drop wd.length then valD (s.drop wd.length) 0 else 0
theorem dig_dec (n : Nat) : digD (Lib.decDigits n) = true := List.all_eq_true.2 (fun c hc => decide_eq_true (dec_digits n c hc))
theorem numRw_word (wd : Nm) (k : Nat) (h2 : k ≤ 1099511627776) : numRw wd (wd ++ Lib.decDigits k) = k := by
  have hl := dec_len 12 k (by omega)
  have h0 : 0 < (Lib.decDigits k).length := List.length_pos_iff.2 (dec_ne k)
  unfold numRw
  rw [List.drop_left, List.take_left, val_dec, if_pos ⟨by rw [List.length_append]; omega, by rw [List.length_append]; omega, rfl, dig_dec k, h2, rfl⟩]
theorem numRw_is {wd s : Nm} (h : 0 < numRw wd s) : s = wd ++ Lib.decDigits (numRw wd s) ∧ numRw wd s ≤ 1099511627776 := by
  unfold numRw at h ⊢
  split at h
  · rename_i hc
    rw [if_pos hc]
    obtain ⟨_, _, h3, _, h5, h6⟩ := hc
    refine ⟨?_, h5⟩
    rw [h6]
    conv => lhs; rw [← List.take_append_drop wd.length s, h3]
  · omega
theorem numRw_uni {wd s : Nm} {f : Nm → Nat} (h1 : ∀ s, 0 < f s → s = wd ++ Lib.decDigits (f s) ∧ f s ≤ 1099511627776) (h2 : ∀ k, 1 ≤ k → k ≤ 1099511627776 → f (wd ++ Lib.decDigits k) = k) : numRw wd s = f s := by
  rcases Nat.eq_zero_or_pos (f s) with h | h
  · rcases Nat.eq_zero_or_pos (numRw wd s) with q | q
    · omega
    · obtain ⟨e1, e2⟩ := numRw_is q
      have := h2 _ q e2
      rw [← e1] at this
      omega
  · obtain ⟨e1, e2⟩ := h1 s h
    have := numRw_word wd (f s) e2
    rw [← e1] at this
    exact this
theorem ext_takeN (s : Nm) (j : Nat) : (str s).extract 0 j = str (s.take j) := by
  apply ByteArray.ext
  apply Array.ext'
  simp [ByteArray.data_extract, str]
theorem ext_dropN (s : Nm) (j : Nat) : (str s).extract j (str s).size = str (s.drop j) := by
  apply ByteArray.ext
  apply Array.ext'
  simp [ByteArray.data_extract, str]
  rw [List.take_of_length_le (by simp [ByteArray.size])]
theorem str_eqD (a b : Nm) : ((str a).toList == (str b).toList) = decide (a = b) := by
  have h1 : ∀ x : Nm, (str x).toList = x := fun x => by rw [ByteArray.toList_eq]; rfl
  rw [h1, h1]
  by_cases h : a = b
  · subst h; simp
  · rw [decide_eq_false h]
    simpa using h
theorem str_at (s : Nm) (j : Nat) (hj : j < s.length) (h : j < (str s).size) : (str s)[j]'h = s[j] := rfl
theorem valD_small {l : List UInt8} (hd : digD l = true) (hl : l.length ≤ 13) : valD l 0 < 10000000000000 := by
  have h := valD_lt l 0 0 (fun c hc => by have := List.all_eq_true.1 hd c hc; simp at this; omega) (by decide)
  rw [Nat.zero_add] at h
  exact Nat.lt_of_lt_of_le h (Nat.pow_le_pow_right (n := 10) (by omega) hl)
theorem digD_snoc (l : List UInt8) (c : UInt8) : digD (l ++ [c]) = (digD l && decide (48 ≤ c.toNat ∧ c.toNat ≤ 57)) := by
  unfold digD
  rw [List.all_append]
  simp
set_option maxRecDepth 20000 in
set_option maxHeartbeats 8000000 in
theorem numbered_calls (wd s : Nm) (hw : wd.length ≤ 8) (hs : s.length ≤ 64) (w : World) : Calls Tryz.prog 76 #[.string (str wd), .string (str s)] w fun e w' => e = .returned (.int .i64 (numRw wd s : Int)) ∧ Below w.heap.size w w' := by
  have z1 : (str s).size = s.length := rfl
  have z2 : (str wd).size = wd.length := rfl
  have NO := hide (show (¬ (wd.length < s.length ∧ s.length ≤ wd.length + 13 ∧ s.take wd.length = wd ∧ digD (s.drop wd.length) = true ∧ valD (s.drop wd.length) 0 ≤ 1099511627776 ∧ Lib.decDigits (valD (s.drop wd.length) 0) = s.drop wd.length)) → (numRw wd s : Int) = 0 from fun h => by unfold numRw; rw [if_neg h]; rfl)
  by_cases c1 : s.length ≤ wd.length
  · have N0 := hide (unhide NO (fun h => by omega))
    have y1 : ((str s).size : Int) ≤ ((str wd).size : Int) := by omega
    generalize str s = bs at *
    generalize str wd = bw at *
    clear NO
    go_enter Tryz.func76, Tryz.ntmps76
    go_wp2
    go_ret
    exact ⟨by rw [unhide N0]; rfl, Below.refl _ _⟩
  by_cases c2 : s.length > wd.length + 13
  · have N0 := hide (unhide NO (fun h => by omega))
    have y1 : ¬ ((str s).size : Int) ≤ ((str wd).size : Int) := by omega
    have y2 : ((str wd).size : Int) + 13 < ((str s).size : Int) := by omega
    generalize str s = bs at *
    generalize str wd = bw at *
    clear NO
    go_enter Tryz.func76, Tryz.ntmps76
    go_wp2
    go_ret
    exact ⟨by rw [unhide N0]; rfl, Below.refl _ _⟩
  have y1 : ¬ ((str s).size : Int) ≤ ((str wd).size : Int) := by omega
  have y2 : ¬ ((str wd).size : Int) + 13 < ((str s).size : Int) := by omega
  have hs1 : ∀ W, (Instr.slice 9 (.string (str s)) none (some (.int .i64 ((str wd).size : Int))) none).run Tryz.prog W = .ok (.string (str (s.take wd.length))) W := fun W => by
    rw [run_slice_string_h _ _ _ Tryz.underlying9 _ _ (by omega) (by omega), Int.toNat_natCast, ext_takeN, z2]
  have hs2 : ∀ W, (Instr.slice 9 (.string (str s)) (some (.int .i64 ((str wd).size : Int))) none none).run Tryz.prog W = .ok (.string (str (s.drop wd.length))) W := fun W => by
    rw [run_slice_string_l _ _ _ Tryz.underlying9 _ _ (by omega) (by omega), Int.toNat_natCast, ext_dropN, z2]
  have hq := str_eqD (s.take wd.length) wd
  have hz1 : (str (s.take wd.length)).size ≤ 64 := by rw [str_size, List.length_take]; omega
  by_cases c3 : s.take wd.length = wd
  · rw [decide_eq_true c3] at hq
    have T3 := hide c3
    have ZZ1 := hide z1
    have ZZ2 := hide z2
    have hb1 : (str s).size ≤ 64 := by omega
    have hb2 : (str wd).size ≤ 8 := by omega
    have hb3 : (str wd).size < (str s).size := by omega
    have DR := hide (show ∀ j (hj : j < s.length), wd.length ≤ j → (s.drop wd.length).take (j + 1 - wd.length) = (s.drop wd.length).take (j - wd.length) ++ [s[j]] from fun j hj hle => by
      rw [show j + 1 - wd.length = (j - wd.length) + 1 by omega, List.take_succ_eq_append_getElem (by rw [List.length_drop]; omega)]
      have : wd.length + (j - wd.length) = j := by omega
      simp only [List.getElem_drop, this])
    have DA := hide (show (s.drop wd.length).take (s.length - wd.length) = s.drop wd.length from List.take_of_length_le (by rw [List.length_drop]; omega))
    have DL := hide (show (s.drop wd.length).length ≤ 13 from by rw [List.length_drop]; omega)
    have DC := hide (fun n hn => digits_calls n hn)
    have hzd : (str (s.drop wd.length)).size ≤ 64 := by rw [str_size, List.length_drop]; omega
    have QD := hide (show ∀ n, ((str (Lib.decDigits n)).toList == (str (s.drop wd.length)).toList) = decide (Lib.decDigits n = s.drop wd.length) from fun n => str_eqD _ _)
    generalize str (s.take wd.length) = bt at *
    generalize hbs : str s = bs at *
    have AT := hide (show ∀ j (hj : j < s.length) (h : j < bs.size), bs[j]'h = s[j] from fun j hj h => by subst hbs; exact str_at s j hj h)
    generalize hbw : str wd = bw at *
    generalize str (s.drop wd.length) = bd at *
    clear z1 z2 c3 hbs hbw
    go_enter Tryz.func76, Tryz.ntmps76
    go_wp2_with fail
    go_loopw [5, 6] (fun v i wr => ∃ (j n : Nat), bw.size ≤ j ∧ j ≤ bs.size ∧ v = .int .i64 (n : Int) ∧ i = .int .i64 (j : Int) ∧ n < 10000000000000 ∧ Hid (n = valD ((s.drop wd.length).take (j - wd.length)) 0) ∧ Hid (digD ((s.drop wd.length).take (j - wd.length)) = true) ∧ Hid (wr = w)) (fun _ i _ => bs.size - (intOf i).toNat)
    case atStart => exact ⟨bw.size, 0, by omega, by omega, rfl, rfl, by omega, (by rw [unhide ZZ2, Nat.sub_self]; rfl), (by rw [unhide ZZ2, Nat.sub_self]; rfl), hide rfl⟩
    case round =>
      obtain ⟨j, n, hj0, hj, rfl, rfl, hn, hN, hD, hWW⟩ := hrel
      have hWW' := unhide hWW
      subst hWW'
      by_cases hjs : j < bs.size
      · have y3 : (j : Int) < (bs.size : Int) := by omega
        have hjl : j < s.length := by rw [← unhide ZZ1]; exact hjs
        have hx2 : ∀ hh, (bs[j]'hh) = s[j] := fun hh => unhide AT j hjl hh
        have DRj := hide (unhide DR j hjl (by rw [← unhide ZZ2]; exact hj0))
        have MEM := hide (show s[j] ∈ s.drop wd.length from by
          have e : s[j] = (s.drop wd.length)[j - wd.length]'(by rw [List.length_drop]; have := unhide ZZ2; omega) := by
            have : wd.length + (j - wd.length) = j := by have := unhide ZZ2; omega
            simp only [List.getElem_drop, this]
          rw [e]
          exact List.getElem_mem _)
        generalize s[j] = x at *
        have x0 : (0 : Int) ≤ (j : Int) := by omega
        have xb : x.toNat < 256 := x.toNat_lt
        by_cases h48 : x.toNat < 48
        · have N0 := hide (unhide NO (fun h => by
            have := List.all_eq_true.1 h.2.2.2.1 x (unhide MEM)
            simp at this
            omega))
          have q1 : ((x.toNat : Nat) : Int) < 48 := by omega
          go_wp2_with fail
          go_ret
          exact ⟨by rw [unhide N0]; rfl, Below.refl _ _⟩
        by_cases h57 : 57 < x.toNat
        · have N0 := hide (unhide NO (fun h => by
            have := List.all_eq_true.1 h.2.2.2.1 x (unhide MEM)
            simp at this
            omega))
          have q1 : ¬ ((x.toNat : Nat) : Int) < 48 := by omega
          have q2 : (57 : Int) < ((x.toNat : Nat) : Int) := by omega
          go_wp2_with fail
          go_ret
          exact ⟨by rw [unhide N0]; rfl, Below.refl _ _⟩
        have q1 : ¬ ((x.toNat : Nat) : Int) < 48 := by omega
        have q2 : ¬ (57 : Int) < ((x.toNat : Nat) : Int) := by omega
        have q3 : IntKind.u8.wrap (((x.toNat : Nat) : Int) - 48) = ((x.toNat - 48 : Nat) : Int) := by rw [IntKind.wrap_u8]; omega
        have DS := hide (show digD ((s.drop wd.length).take (j + 1 - wd.length)) = true from by rw [unhide DRj, digD_snoc, unhide hD, decide_eq_true ⟨by omega, by omega⟩]; rfl)
        have VS := hide (show n * 10 + (x.toNat - 48) = valD ((s.drop wd.length).take (j + 1 - wd.length)) 0 from by rw [unhide DRj, valD_app, ← unhide hN]; rfl)
        have hn2 : n * 10 + (x.toNat - 48) < 10000000000000 := by
          rw [unhide VS]
          exact valD_small (unhide DS) (by rw [List.length_take]; have := unhide DL; omega)
        generalize x.toNat - 48 = dx at *
        have hw1 : IntKind.i64.wrap ((n : Int) * 10 + (dx : Int)) = ((n * 10 + dx : Nat) : Int) := by rw [IntKind.wrap_i64]; omega
        go_wp2_with fail
        exact ⟨⟨j + 1, n * 10 + dx, by omega, by omega, by go_num, by go_num, hn2, VS, DS, by first | exact hide trivial | exact hide rfl⟩, by simp [intOf]; omega⟩
      · have y3 : ¬ (j : Int) < (bs.size : Int) := by omega
        have JE := hide (show j - wd.length = s.length - wd.length from by have h1 := unhide ZZ1; have h2 := unhide ZZ2; omega)
        rw [unhide JE, unhide DA] at hN hD
        have YES := hide (show valD (s.drop wd.length) 0 ≤ 1099511627776 → Lib.decDigits (valD (s.drop wd.length) 0) = s.drop wd.length → numRw wd s = valD (s.drop wd.length) 0 from fun h1 h2 => by
          unfold numRw
          exact if_pos ⟨by have h3 := unhide ZZ1; have h4 := unhide ZZ2; omega, by omega, unhide T3, unhide hD, h1, h2⟩)
        rw [← unhide hN] at YES NO
        by_cases hmx : 1099511627776 < n
        · have N0 := hide (unhide NO (fun h => by omega))
          have q1 : decide ((1099511627776 : Int) < (n : Int)) = true := decide_eq_true (by omega)
          go_wp2_with fail
          go_quiet (fail)
          go_wp2_with fail
          go_ret
          exact ⟨by rw [unhide N0]; rfl, _root_.Go.below_drewN (Below.refl _ _) nq⟩
        · have q1 : decide ((1099511627776 : Int) < (n : Int)) = false := decide_eq_false (by omega)
          have QE := unhide QD n
          have DC' := hide (unhide DC n (by omega))
          have hzn : (str (Lib.decDigits n)).size ≤ 64 := by rw [str_size]; exact Nat.le_trans (dec_len 12 n (by omega)) (by omega)
          have F := hide (show Below wr.heap.size wr wr.drew from (Below.refl _ _).drew)
          generalize str (Lib.decDigits n) = bn at *
          by_cases heq : Lib.decDigits n = s.drop wd.length
          · rw [decide_eq_true heq] at QE
            have NY := hide (unhide YES (by omega) heq)
            clear heq YES NO QD
            go_wp2_with fail
            refine wp_region_held_drew (S := fun _ => True) (by kernel_rfl) ?_ (fun hHeld => ?_)
            · try dsimp only
              all_goals exact trivial
            refine held_take 0 (oi := { dst := some 54, op := Op.move (Operand.tmp 5), type := 3, pos := "ref.go:45", after := #[], guard := none }) (v := ?_) (by kernel_rfl) rfl (by rfl) (by kernel_rfl) (by kernel_rfl) (fun _ _ _ h => h) ?_ (by assumption) ?_
            rotate_left
            · (intro w hSw; (try dsimp only at hSw); go_simp; try with_reducible rfl)
            try simp only [Act.put, List.setIfInBounds_toArray, List.set_cons_zero, List.set_cons_succ]
            refine held_take 1 (oi := { dst := some 55, op := Op.binOp BinOp.gtr 3 (Operand.tmp 54) (Operand.const (Value.int IntKind.i64 1099511627776)) 3, type := 4, pos := "ref.go:45", after := #[{ on := 0, ground := Ground.data }], guard := none }) (v := ?_) (by kernel_rfl) rfl (by rfl) (by kernel_rfl) (by kernel_rfl) (fun _ _ _ h => h) ?_ (by assumption) ?_
            rotate_left
            · (intro w hSw; (try dsimp only at hSw); go_simp; try with_reducible rfl)
            try simp only [Act.put, List.setIfInBounds_toArray, List.set_cons_zero, List.set_cons_succ]
            refine held_take 2 (oi := { dst := some 56, op := Op.move (Operand.tmp 55), type := 4, pos := "ref.go:45", after := #[{ on := 1, ground := Ground.data }], guard := none }) (v := ?_) (by kernel_rfl) rfl (by rfl) (by kernel_rfl) (by kernel_rfl) (fun _ _ _ h => h) ?_ (by assumption) ?_
            rotate_left
            · (intro w hSw; (try dsimp only at hSw); go_simp; try with_reducible rfl)
            try simp only [Act.put, List.setIfInBounds_toArray, List.set_cons_zero, List.set_cons_succ]
            refine held_take 3 (oi := { dst := some 57, op := Op.move (Operand.tmp 5), type := 3, pos := "ref.go:45", after := #[{ on := 2, ground := Ground.guard }], guard := some (2, false) }) (v := ?_) (by kernel_rfl) rfl (by rfl) (by kernel_rfl) (by kernel_rfl) (fun _ _ _ h => h) ?_ (by assumption) ?_
            rotate_left
            · (intro w hSw; (try dsimp only at hSw); go_simp; try with_reducible rfl)
            try simp only [Act.put, List.setIfInBounds_toArray, List.set_cons_zero, List.set_cons_succ]
            refine held_take 5 (oi := { dst := some 59, op := Op.move (Operand.tmp 1), type := 9, pos := "ref.go:45", after := #[{ on := 2, ground := Ground.guard }], guard := some (2, false) }) (v := ?_) (by kernel_rfl) rfl (by rfl) (by kernel_rfl) (by kernel_rfl) (fun _ _ _ h => h) ?_ (by assumption) ?_
            rotate_left
            · (intro w hSw; (try dsimp only at hSw); go_simp; try with_reducible rfl)
            try simp only [Act.put, List.setIfInBounds_toArray, List.set_cons_zero, List.set_cons_succ]
            refine held_take 6 (oi := { dst := some 60, op := Op.move (Operand.tmp 0), type := 9, pos := "ref.go:45", after := #[{ on := 2, ground := Ground.guard }], guard := some (2, false) }) (v := ?_) (by kernel_rfl) rfl (by rfl) (by kernel_rfl) (by kernel_rfl) (fun _ _ _ h => h) ?_ (by assumption) ?_
            rotate_left
            · (intro w hSw; (try dsimp only at hSw); go_simp; try with_reducible rfl)
            try simp only [Act.put, List.setIfInBounds_toArray, List.set_cons_zero, List.set_cons_succ]
            refine held_take 7 (oi := { dst := some 61, op := Op.call { callee := Callee.builtin Builtin.len, args := #[Operand.tmp 60], argTypes := #[9] }, type := 3, pos := "ref.go:45", after := #[{ on := 6, ground := Ground.data }, { on := 2, ground := Ground.guard }], guard := some (2, false) }) (v := ?_) (by kernel_rfl) rfl (by rfl) (by kernel_rfl) (by kernel_rfl) (fun _ _ _ h => h) ?_ (by assumption) ?_
            rotate_left
            · (intro w hSw; (try dsimp only at hSw); go_simp; try with_reducible rfl)
            try simp only [Act.put, List.setIfInBounds_toArray, List.set_cons_zero, List.set_cons_succ]
            refine held_take 8 (oi := { dst := some 62, op := Op.slice 9 (Operand.tmp 59) (some (Operand.tmp 61)) none none, type := 9, pos := "ref.go:45", after := #[{ on := 5, ground := Ground.data }, { on := 7, ground := Ground.data }, { on := 2, ground := Ground.guard }], guard := some (2, false) }) (v := ?_) (by kernel_rfl) rfl (by rfl) (by kernel_rfl) (by kernel_rfl) (fun _ _ _ h => h) ?_ (by assumption) ?_
            rotate_left
            · (intro w hSw; (try dsimp only at hSw); go_simp; try with_reducible rfl)
            try simp only [Act.put, List.setIfInBounds_toArray, List.set_cons_zero, List.set_cons_succ]
            refine held_one 4 (oi := { dst := some 58, op := Op.call { callee := Callee.value (Operand.func 75), args := #[Operand.tmp 57], argTypes := #[3] }, type := 9, pos := "ref.go:45", after := #[{ on := 3, ground := Ground.data }, { on := 2, ground := Ground.chain }, { on := 2, ground := Ground.guard }], guard := some (2, false) }) (by kernel_rfl) rfl (fun K hK => ?_)
            go_simp
            (refine (unhide DC' _).mono ?_; rintro e W4 ⟨rfl, b4⟩; have F := hide ((unhide F).trans (b4.mono (unhide F).size)); clear b4)
            go_wp2_with fail
            refine hK.out _ _ ?_ (fun hHeld => ?_)
            · try dsimp only
              all_goals exact trivial
            clear hK K
            try simp only [Act.put, List.setIfInBounds_toArray, List.set_cons_zero, List.set_cons_succ]
            refine held_take 9 (oi := { dst := some 63, op := Op.binOp BinOp.neq 9 (Operand.tmp 58) (Operand.tmp 62) 9, type := 4, pos := "ref.go:45", after := #[{ on := 4, ground := Ground.data }, { on := 8, ground := Ground.data }, { on := 2, ground := Ground.guard }], guard := some (2, false) }) (v := ?_) (by kernel_rfl) rfl (by rfl) (by kernel_rfl) (by kernel_rfl) (fun _ _ _ h => h) ?_ (by assumption) ?_
            rotate_left
            · (intro w hSw; (try dsimp only at hSw); go_simp; try with_reducible rfl)
            try simp only [Act.put, List.setIfInBounds_toArray, List.set_cons_zero, List.set_cons_succ]
            refine held_take 10 (oi := { dst := some 64, op := Op.pick (Operand.tmp 56) (Operand.const (Value.bool true)) (Operand.tmp 63), type := 4, pos := "ref.go:45", after := #[{ on := 2, ground := Ground.data }, { on := 9, ground := Ground.data }], guard := none }) (v := ?_) (by kernel_rfl) rfl (by rfl) (by kernel_rfl) (by kernel_rfl) (fun _ _ _ h => h) ?_ (by assumption) ?_
            rotate_left
            · (intro w hSw; (try dsimp only at hSw); go_simp; try with_reducible rfl)
            try simp only [Act.put, List.setIfInBounds_toArray, List.set_cons_zero, List.set_cons_succ]
            refine wpAnyH_done (by kernel_rfl) ?_ _
            go_wp2_with fail
            go_ret
            exact ⟨by rw [unhide NY]; rfl, unhide F⟩
          · rw [decide_eq_false heq] at QE
            have N0 := hide (unhide NO (fun h => heq h.2.2.2.2.2))
            clear heq YES NO QD
            go_wp2_with fail
            refine wp_region_held_drew (S := fun _ => True) (by kernel_rfl) ?_ (fun hHeld => ?_)
            · try dsimp only
              all_goals exact trivial
            refine held_take 0 (oi := { dst := some 54, op := Op.move (Operand.tmp 5), type := 3, pos := "ref.go:45", after := #[], guard := none }) (v := ?_) (by kernel_rfl) rfl (by rfl) (by kernel_rfl) (by kernel_rfl) (fun _ _ _ h => h) ?_ (by assumption) ?_
            rotate_left
            · (intro w hSw; (try dsimp only at hSw); go_simp; try with_reducible rfl)
            try simp only [Act.put, List.setIfInBounds_toArray, List.set_cons_zero, List.set_cons_succ]
            refine held_take 1 (oi := { dst := some 55, op := Op.binOp BinOp.gtr 3 (Operand.tmp 54) (Operand.const (Value.int IntKind.i64 1099511627776)) 3, type := 4, pos := "ref.go:45", after := #[{ on := 0, ground := Ground.data }], guard := none }) (v := ?_) (by kernel_rfl) rfl (by rfl) (by kernel_rfl) (by kernel_rfl) (fun _ _ _ h => h) ?_ (by assumption) ?_
            rotate_left
            · (intro w hSw; (try dsimp only at hSw); go_simp; try with_reducible rfl)
            try simp only [Act.put, List.setIfInBounds_toArray, List.set_cons_zero, List.set_cons_succ]
            refine held_take 2 (oi := { dst := some 56, op := Op.move (Operand.tmp 55), type := 4, pos := "ref.go:45", after := #[{ on := 1, ground := Ground.data }], guard := none }) (v := ?_) (by kernel_rfl) rfl (by rfl) (by kernel_rfl) (by kernel_rfl) (fun _ _ _ h => h) ?_ (by assumption) ?_
            rotate_left
            · (intro w hSw; (try dsimp only at hSw); go_simp; try with_reducible rfl)
            try simp only [Act.put, List.setIfInBounds_toArray, List.set_cons_zero, List.set_cons_succ]
            refine held_take 3 (oi := { dst := some 57, op := Op.move (Operand.tmp 5), type := 3, pos := "ref.go:45", after := #[{ on := 2, ground := Ground.guard }], guard := some (2, false) }) (v := ?_) (by kernel_rfl) rfl (by rfl) (by kernel_rfl) (by kernel_rfl) (fun _ _ _ h => h) ?_ (by assumption) ?_
            rotate_left
            · (intro w hSw; (try dsimp only at hSw); go_simp; try with_reducible rfl)
            try simp only [Act.put, List.setIfInBounds_toArray, List.set_cons_zero, List.set_cons_succ]
            refine held_take 5 (oi := { dst := some 59, op := Op.move (Operand.tmp 1), type := 9, pos := "ref.go:45", after := #[{ on := 2, ground := Ground.guard }], guard := some (2, false) }) (v := ?_) (by kernel_rfl) rfl (by rfl) (by kernel_rfl) (by kernel_rfl) (fun _ _ _ h => h) ?_ (by assumption) ?_
            rotate_left
            · (intro w hSw; (try dsimp only at hSw); go_simp; try with_reducible rfl)
            try simp only [Act.put, List.setIfInBounds_toArray, List.set_cons_zero, List.set_cons_succ]
            refine held_take 6 (oi := { dst := some 60, op := Op.move (Operand.tmp 0), type := 9, pos := "ref.go:45", after := #[{ on := 2, ground := Ground.guard }], guard := some (2, false) }) (v := ?_) (by kernel_rfl) rfl (by rfl) (by kernel_rfl) (by kernel_rfl) (fun _ _ _ h => h) ?_ (by assumption) ?_
            rotate_left
            · (intro w hSw; (try dsimp only at hSw); go_simp; try with_reducible rfl)
            try simp only [Act.put, List.setIfInBounds_toArray, List.set_cons_zero, List.set_cons_succ]
            refine held_take 7 (oi := { dst := some 61, op := Op.call { callee := Callee.builtin Builtin.len, args := #[Operand.tmp 60], argTypes := #[9] }, type := 3, pos := "ref.go:45", after := #[{ on := 6, ground := Ground.data }, { on := 2, ground := Ground.guard }], guard := some (2, false) }) (v := ?_) (by kernel_rfl) rfl (by rfl) (by kernel_rfl) (by kernel_rfl) (fun _ _ _ h => h) ?_ (by assumption) ?_
            rotate_left
            · (intro w hSw; (try dsimp only at hSw); go_simp; try with_reducible rfl)
            try simp only [Act.put, List.setIfInBounds_toArray, List.set_cons_zero, List.set_cons_succ]
            refine held_take 8 (oi := { dst := some 62, op := Op.slice 9 (Operand.tmp 59) (some (Operand.tmp 61)) none none, type := 9, pos := "ref.go:45", after := #[{ on := 5, ground := Ground.data }, { on := 7, ground := Ground.data }, { on := 2, ground := Ground.guard }], guard := some (2, false) }) (v := ?_) (by kernel_rfl) rfl (by rfl) (by kernel_rfl) (by kernel_rfl) (fun _ _ _ h => h) ?_ (by assumption) ?_
            rotate_left
            · (intro w hSw; (try dsimp only at hSw); go_simp; try with_reducible rfl)
            try simp only [Act.put, List.setIfInBounds_toArray, List.set_cons_zero, List.set_cons_succ]
            refine held_one 4 (oi := { dst := some 58, op := Op.call { callee := Callee.value (Operand.func 75), args := #[Operand.tmp 57], argTypes := #[3] }, type := 9, pos := "ref.go:45", after := #[{ on := 3, ground := Ground.data }, { on := 2, ground := Ground.chain }, { on := 2, ground := Ground.guard }], guard := some (2, false) }) (by kernel_rfl) rfl (fun K hK => ?_)
            go_simp
            (refine (unhide DC' _).mono ?_; rintro e W4 ⟨rfl, b4⟩; have F := hide ((unhide F).trans (b4.mono (unhide F).size)); clear b4)
            go_wp2_with fail
            refine hK.out _ _ ?_ (fun hHeld => ?_)
            · try dsimp only
              all_goals exact trivial
            clear hK K
            try simp only [Act.put, List.setIfInBounds_toArray, List.set_cons_zero, List.set_cons_succ]
            refine held_take 9 (oi := { dst := some 63, op := Op.binOp BinOp.neq 9 (Operand.tmp 58) (Operand.tmp 62) 9, type := 4, pos := "ref.go:45", after := #[{ on := 4, ground := Ground.data }, { on := 8, ground := Ground.data }, { on := 2, ground := Ground.guard }], guard := some (2, false) }) (v := ?_) (by kernel_rfl) rfl (by rfl) (by kernel_rfl) (by kernel_rfl) (fun _ _ _ h => h) ?_ (by assumption) ?_
            rotate_left
            · (intro w hSw; (try dsimp only at hSw); go_simp; try with_reducible rfl)
            try simp only [Act.put, List.setIfInBounds_toArray, List.set_cons_zero, List.set_cons_succ]
            refine held_take 10 (oi := { dst := some 64, op := Op.pick (Operand.tmp 56) (Operand.const (Value.bool true)) (Operand.tmp 63), type := 4, pos := "ref.go:45", after := #[{ on := 2, ground := Ground.data }, { on := 9, ground := Ground.data }], guard := none }) (v := ?_) (by kernel_rfl) rfl (by rfl) (by kernel_rfl) (by kernel_rfl) (fun _ _ _ h => h) ?_ (by assumption) ?_
            rotate_left
            · (intro w hSw; (try dsimp only at hSw); go_simp; try with_reducible rfl)
            try simp only [Act.put, List.setIfInBounds_toArray, List.set_cons_zero, List.set_cons_succ]
            refine wpAnyH_done (by kernel_rfl) ?_ _
            go_wp2_with fail
            go_ret
            exact ⟨by rw [unhide N0]; rfl, unhide F⟩
  · rw [decide_eq_false c3] at hq
    have N0 := hide (unhide NO (fun h => c3 h.2.2.1))
    generalize str (s.take wd.length) = bt at *
    generalize str s = bs at *
    generalize str wd = bw at *
    have hb1 : bs.size ≤ 64 := by omega
    have hb2 : bw.size ≤ 8 := by omega
    clear NO c3 hs2 z1 z2
    go_enter Tryz.func76, Tryz.ntmps76
    go_wp2
    go_ret
    exact ⟨by rw [unhide N0]; rfl, Below.refl _ _⟩
end Go.Proofs.YtagncghpfdjkmaaGreatDoor
end
/- SnapSaves, plainly: the document's Save and Load are the program's. -/
section
namespace Go.Proofs.YtagncghpfdjkmaaGreatDoor
open Go.ChangeShapes Go.WideShapes Go.ChangeAt Go.RowKit
set_option linter.unusedVariables false

/-- The snapshot of a whole file. -/
def goodS (x : Nm) (ss : Ds) : Option Sn := if 0 < numS x then (match snL (nowL x ss) with
  | .ok s => if s.i = (numS x : Int) then some s else none
  | .error _ => none) else none
theorem goodS_num {x : Nm} {ss : Ds} {s : Sn} (h : goodS x ss = some s) : 0 < numS x ∧ s.i = (numS x : Int) ∧ snL (nowL x ss) = .ok s := by
  unfold goodS at h
  split at h
  · rename_i h0
    cases hl : snL (nowL x ss) with
    | error _ => rw [hl] at h; cases h
    | ok t =>
      rw [hl] at h
      dsimp only at h
      split at h
      · rename_i h1
        cases h
        exact ⟨h0, h1, rfl⟩
      · cases h
  · cases h
/-- The document's choice: name by name. -/
def bestR (ss : Ds) : List Nm → Sn → Sn
  | [], b => b
  | x :: r, b => bestR ss r (match goodS x ss with
    | some s => if b.i < s.i then s else b
    | none => b)
theorem bestR_is (ss : Ds) : ∀ (l : List Nm) (b : Sn), (bestR ss l b = b ∨ ∃ x ∈ l, goodS x ss = some (bestR ss l b)) ∧ b.i ≤ (bestR ss l b).i ∧ ∀ x ∈ l, ∀ s, goodS x ss = some s → s.i ≤ (bestR ss l b).i
  | [], b => ⟨.inl rfl, Int.le_refl _, fun x hx => by cases hx⟩
  | x :: r, b => by
    unfold bestR
    cases hg : goodS x ss with
    | none =>
      dsimp only
      obtain ⟨h1, h2, h3⟩ := bestR_is ss r b
      refine ⟨h1.imp id (fun ⟨y, hy, e⟩ => ⟨y, List.mem_cons_of_mem _ hy, e⟩), h2, fun y hy s hs => ?_⟩
      rcases List.mem_cons.1 hy with rfl | hy
      · rw [hg] at hs; cases hs
      · exact h3 y hy s hs
    | some t =>
      dsimp only
      by_cases hb : b.i < t.i
      · rw [if_pos hb]
        obtain ⟨h1, h2, h3⟩ := bestR_is ss r t
        refine ⟨.inr ?_, by omega, fun y hy s hs => ?_⟩
        · rcases h1 with h1 | ⟨y, hy, e⟩
          · exact ⟨x, List.mem_cons_self, by rw [h1]; exact hg⟩
          · exact ⟨y, List.mem_cons_of_mem _ hy, e⟩
        · rcases List.mem_cons.1 hy with rfl | hy
          · rw [hg] at hs; cases hs; exact h2
          · exact h3 y hy s hs
      · rw [if_neg hb]
        obtain ⟨h1, h2, h3⟩ := bestR_is ss r b
        refine ⟨h1.imp id (fun ⟨y, hy, e⟩ => ⟨y, List.mem_cons_of_mem _ hy, e⟩), h2, fun y hy s hs => ?_⟩
        rcases List.mem_cons.1 hy with rfl | hy
        · rw [hg] at hs; cases hs; omega
        · exact h3 y hy s hs
theorem readE_in {x : Nm} {ss : Ds} (h : x ∈ ss.map (·.1)) : readE x ss = 0 := by
  unfold readE
  cases hg : getS x ss with
  | none => exact absurd h (getS_none.1 hg)
  | some _ => rfl
theorem loadL_cons {f : Fl} {r : List Fl} {ss : Ds} (h1 : f.1 ∈ ss.map (·.1)) (h2 : 0 < f.2) (h3 : f.1 = snNm f.2) (h4 : f.2 ≤ 1099511627776) : loadL (f :: r) ss = match goodS f.1 ss with
    | some s => some s
    | none => loadL r ss := by
  have hn : numS f.1 = f.2 := by rw [h3]; exact numS_snNm _ h2 h4
  rw [loadL, if_neg (by rw [readE_in h1]; decide)]
  unfold goodS
  rw [hn, if_pos h2]
  cases hl : snL (nowL f.1 ss) with
  | error x => rfl
  | ok s =>
    dsimp only
    by_cases hi : s.i = (f.2 : Int)
    · rw [if_pos hi, if_pos ⟨by rw [hi, Int.toNat_natCast, ← h3], hi⟩]
    · rw [if_neg hi, if_neg (fun q => hi q.2)]
theorem loadL_is {ss : Ds} : ∀ (fs : List Fl), (∀ f ∈ fs, f.1 ∈ ss.map (·.1) ∧ 0 < f.2 ∧ f.1 = snNm f.2 ∧ f.2 ≤ 1099511627776) → fs.Pairwise (fun a b => b.2 ≤ a.2) →
    (loadL fs ss = none ∧ ∀ f ∈ fs, goodS f.1 ss = none) ∨ (∃ s, loadL fs ss = some s ∧ (∃ f ∈ fs, goodS f.1 ss = some s) ∧ ∀ f ∈ fs, ∀ t, goodS f.1 ss = some t → t.i ≤ s.i)
  | [], _, _ => .inl ⟨rfl, fun f hf => by cases hf⟩
  | f :: r, hm, hd => by
    obtain ⟨h1, h2, h3, h4⟩ := hm f List.mem_cons_self
    have hn : numS f.1 = f.2 := by rw [h3]; exact numS_snNm _ h2 h4
    rw [loadL_cons h1 h2 h3 h4]
    rw [List.pairwise_cons] at hd
    cases hg : goodS f.1 ss with
    | some s =>
      dsimp only
      refine .inr ⟨s, rfl, ⟨f, List.mem_cons_self, hg⟩, fun g hgm t ht => ?_⟩
      have hs := (goodS_num hg).2.1
      have h5 := (goodS_num ht).2.1
      rcases List.mem_cons.1 hgm with rfl | hgm
      · rw [hg] at ht; cases ht; exact Int.le_refl _
      · obtain ⟨g1, g2, g3, g4⟩ := hm g (List.mem_cons_of_mem _ hgm)
        have hgn : numS g.1 = g.2 := by rw [g3]; exact numS_snNm _ g2 g4
        have := hd.1 g hgm
        omega
    | none =>
      dsimp only
      rcases loadL_is r (fun g hgm => hm g (List.mem_cons_of_mem _ hgm)) hd.2 with ⟨q1, q2⟩ | ⟨s, q1, ⟨g, q2, q3⟩, q4⟩
      · refine .inl ⟨q1, fun g hgm => ?_⟩
        rcases List.mem_cons.1 hgm with rfl | hgm
        · exact hg
        · exact q2 g hgm
      · refine .inr ⟨s, q1, ⟨g, List.mem_cons_of_mem _ q2, q3⟩, fun g' hgm t ht => ?_⟩
        rcases List.mem_cons.1 hgm with rfl | hgm
        · rw [hg] at ht; cases ht
        · exact q4 g' hgm t ht
/-- Both tell the same. -/
theorem load_same (ss : Ds) : sLoad ss = (if (bestR ss (ss.map (·.1)) sn0).i = 0 then none else some (bestR ss (ss.map (·.1)) sn0)) := by
  obtain ⟨b1, b2, b3⟩ := bestR_is ss (ss.map (·.1)) sn0
  have hall : ∀ f ∈ sorD (filS (ss.map (·.1))), f.1 ∈ ss.map (·.1) ∧ 0 < f.2 ∧ f.1 = snNm f.2 ∧ f.2 ≤ 1099511627776 := fun f hf => filS_mem (sor_mem.1 hf)
  have hin : ∀ x ∈ ss.map (·.1), ∀ s, goodS x ss = some s → (x, numS x) ∈ sorD (filS (ss.map (·.1))) := fun x hx s hs => sor_mem.2 (filS_in hx (goodS_num hs).1)
  unfold sLoad
  generalize bestR ss (ss.map (·.1)) sn0 = B at *
  rcases loadL_is _ hall (sorD_desc _) with ⟨q1, q2⟩ | ⟨s, q1, ⟨f, q2, q3⟩, q4⟩
  · rw [q1]
    rcases b1 with b1 | ⟨x, hx, e⟩
    · rw [b1]
      exact (if_pos (show sn0.i = 0 from rfl)).symm
    · exact absurd e (by have := q2 _ (hin x hx _ e); rw [this]; exact fun h => by cases h)
  · rw [q1]
    have hs := goodS_num q3
    have h5 := b3 f.1 (hall f q2).1 s q3
    rw [if_neg (by omega)]
    rcases b1 with b1 | ⟨x, hx, e⟩
    · rw [b1] at h5; rw [show sn0.i = 0 from rfl] at h5; omega
    · have h6 := q4 _ (hin x hx _ e) _ e
      have h7 := goodS_num e
      have hf := numS_is (s := f.1) rfl hs.1
      have hx2 := numS_is (s := x) rfl h7.1
      have : numS f.1 = numS x := by omega
      rw [hf.1, this, ← hx2.1, e] at q3
      exact q3.symm
/-- Removed name by name. -/
def remN (k : Nat) : List Nm → Ds → Ds
  | [], ss => ss
  | x :: r, ss => remN k r (if 0 < numS x ∧ numS x < k then (dRemove x ss).2 else ss)
theorem remN_is (k : Nat) : ∀ (l : List Nm) (ss : Ds), remN k l ss = ss.filter (fun x => l.all (fun n => !(decide (0 < numS n ∧ numS n < k) && decide (x.1 = n))))
  | [], ss => by
    rw [remN]
    exact (List.filter_eq_self.2 (fun _ _ => rfl)).symm
  | n :: r, ss => by
    unfold remN
    by_cases h : 0 < numS n ∧ numS n < k
    · rw [if_pos h, dRemove_2, remN_is k r]
      unfold delF
      rw [List.filter_filter]
      apply List.filter_congr
      intro x _
      rw [List.all_cons, Bool.and_comm]
      simp [h]
    · rw [if_neg h, remN_is k r]
      apply List.filter_congr
      intro x _
      rw [List.all_cons, decide_eq_false h]
      simp
theorem remN_all (k : Nat) (ss : Ds) : remN k (ss.map (·.1)) ss = elders k ss := by
  rw [remN_is]
  unfold elders
  apply List.filter_congr
  intro x hx
  rw [Bool.eq_iff_iff, List.all_eq_true]
  constructor
  · intro h
    have := h x.1 (List.mem_map.2 ⟨x, hx, rfl⟩)
    simpa using this
  · intro h n _
    by_cases e : x.1 = n
    · subst e; simpa using h
    · simp [e]
/-- The document's Save. -/
def rSave (room : Nat) (s : Sn) (ss : Ds) : Nat × Ds :=
  if snE s ≠ 0 then (snE s, ss) else
  if (dWrite room spareS 0 (snB s) (dRemove spareS ss).2).1 ≠ 0 then ((dWrite room spareS 0 (snB s) (dRemove spareS ss).2).1, (dRemove spareS (dWrite room spareS 0 (snB s) (dRemove spareS ss).2).2).2) else
  if (dRename spareS (snNm s.i.toNat) (dSync spareS (dWrite room spareS 0 (snB s) (dRemove spareS ss).2).2).2).1 ≠ 0 then ((dRename spareS (snNm s.i.toNat) (dSync spareS (dWrite room spareS 0 (snB s) (dRemove spareS ss).2).2).2).1, (dRemove spareS (dRename spareS (snNm s.i.toNat) (dSync spareS (dWrite room spareS 0 (snB s) (dRemove spareS ss).2).2).2).2).2) else
  (0, remN s.i.toNat ((dRename spareS (snNm s.i.toNat) (dSync spareS (dWrite room spareS 0 (snB s) (dRemove spareS ss).2).2).2).2.map (·.1)) (dRename spareS (snNm s.i.toNat) (dSync spareS (dWrite room spareS 0 (snB s) (dRemove spareS ss).2).2).2).2)
theorem dWrite_rise {room : Nat} {k : Nm} {z : Int} {o : List Nat} {ss : Ds} (h : Rises ss) : Rises (dWrite room k z o ss).2 := by
  unfold dWrite
  repeat (split; exact h)
  exact h.put _ _
theorem dWrite_there {room : Nat} {k : Nm} {z : Int} {o : List Nat} {ss : Ds} (h : Rises ss) (h0 : (dWrite room k z o ss).1 = 0) : ∃ v, getS k (dWrite room k z o ss).2 = some v := by
  unfold dWrite at h0 ⊢
  split at h0
  · cases h0
  split at h0
  · cases h0
  split at h0
  · cases h0
  split at h0
  · cases h0
  rename_i a b c d
  rw [if_neg a, if_neg b, if_neg c, if_neg d]
  exact ⟨_, by rw [getS_put h, if_pos rfl]⟩
theorem dSync_there {k : Nm} {ss : Ds} (h : Rises ss) {v : Sp} (hv : getS k ss = some v) : dSync k ss = (0, putF k ⟨true, v.now, []⟩ ss) := by
  unfold dSync
  rw [hv]
theorem save_same {room : Nat} {s : Sn} {ss : Ds} (h : Rises ss) : rSave room s ss = sSave room s ss := by
  unfold rSave sSave sKeep
  by_cases h0 : snE s ≠ 0
  · rw [if_pos h0, if_pos h0]
  rw [if_neg h0, if_neg h0]
  have hs : snE s = 0 := by omega
  have hi := (snE_may hs).1
  have hr : Rises (dRemove spareS ss).2 := by rw [dRemove_2]; exact h.del _
  have hw := dWrite_rise (room := room) (k := spareS) (z := 0) (o := snB s) hr
  have ht := dWrite_there (room := room) (k := spareS) (z := 0) (o := snB s) hr
  generalize dWrite room spareS 0 (snB s) (dRemove spareS ss).2 = W at *
  obtain ⟨e1, s1⟩ := W
  dsimp only at hw ht ⊢
  by_cases h1 : e1 ≠ 0
  · rw [if_pos h1, if_pos h1]
    dsimp only
    rw [if_pos h1]
  · rw [if_neg h1, if_neg h1]
    obtain ⟨v, hv⟩ := ht (by omega)
    have hS := dSync_there hw hv
    rw [hS]
    dsimp only
    have hr2 := hw.put spareS ⟨true, v.now, []⟩
    have hR : dRename spareS (snNm s.i.toNat) (putF spareS ⟨true, v.now, []⟩ s1) = (0, putF (snNm s.i.toNat) ⟨true, v.now, []⟩ (delF spareS (putF spareS ⟨true, v.now, []⟩ s1))) := by
      unfold dRename
      rw [getS_put hw, if_pos rfl]
      dsimp only
      rw [if_pos (snNm_name (by omega) (by omega))]
    rw [hR]
    dsimp only
    have hr3 := (hr2.del spareS).put (snNm s.i.toNat) ⟨true, v.now, []⟩
    simp only [ne_eq, not_true_eq_false, ↓reduceIte, rem_elders _ hr3, remN_all]
end Go.Proofs.YtagncghpfdjkmaaGreatDoor
end
