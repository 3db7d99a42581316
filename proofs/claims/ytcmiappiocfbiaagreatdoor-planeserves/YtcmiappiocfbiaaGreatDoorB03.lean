/- Plane: a target's weight, the weights' sum, the first and the last target. -/
import Derived.Test.YtcmiappiocfbiaaGreatDoorB02
section
namespace Go.Proofs.YtcmiappiocfbiaaGreatDoor
open Go.ChangeShapes Go.WideShapes Go.ChangeAt Go.RowKit

theorem run_addF {x y : Nat} (hx : x ≤ fI) (hy : y ≤ fI) (t : TypeId) (w : World) : (binOp .add t (.float .f64 x) (.float .f64 y)).run Tryz.prog w = .ok (.float .f64 (addN x y)) w := run_float_arith w .add t .f64 x y _ (add_is hx hy)
theorem run_mulF {x y : Nat} (hx : x < fI) (hy : y < fI) (t : TypeId) (w : World) : (binOp .mul t (.float .f64 x) (.float .f64 y)).run Tryz.prog w = .ok (.float .f64 (mulN x y)) w := run_float_arith w .mul t .f64 x y _ (mul_is hx hy)
theorem run_storeF (m : Mode) (a : Addr) (b : Nat) (w : World) : (store a (.float .f64 b) m).run Tryz.prog w = stored Tryz.prog w a (.float .f64 b) m := run_store Tryz.prog w a _ m rfl
theorem gt0_is (x : Nat) (hx : x < 18446744073709551616) : (FloatKind.f64.format.order x 0 == some Ordering.gt) = decide (0 < x ∧ x ≤ fI) := order_zero x hx
theorem lt_is {x y : Nat} (hx : x ≤ fI) (hy : y ≤ fI) : (FloatKind.f64.format.order x y == some Ordering.lt) = decide (x < y) := by
  rw [show FloatKind.f64.format.order x y = _ from order_is hx hy]
  by_cases h : x < y
  · rw [Nat.compare_eq_lt.2 h, decide_eq_true h]; rfl
  · rw [decide_eq_false h]
    rcases Nat.lt_or_ge y x with h1 | h1
    · rw [Nat.compare_eq_gt.2 h1]; rfl
    · rw [Nat.compare_eq_eq.2 (by omega)]; rfl
theorem gt_is {x y : Nat} (hx : x ≤ fI) (hy : y ≤ fI) : (FloatKind.f64.format.order x y == some Ordering.gt) = decide (y < x) := by
  rw [show FloatKind.f64.format.order x y = _ from order_is hx hy]
  by_cases h : y < x
  · rw [Nat.compare_eq_gt.2 h, decide_eq_true h]; rfl
  · rw [decide_eq_false h]
    rcases Nat.lt_or_ge x y with h1 | h1
    · rw [Nat.compare_eq_lt.2 h1]; rfl
    · rw [Nat.compare_eq_eq.2 (by omega)]; rfl
/-- A target: its address, its weight's bits. -/
abbrev Tg := ByteArray × Nat
structure TgsAt (w : World) (a : Option Addr) (l : List Tg) : Prop where
  lt : ∀ t ∈ l, t.2 < 18446744073709551616
  cell : ∀ i (hi : i < l.length), ∃ b off, a = some ⟨b, off, none⟩ ∧ w.cell? ⟨b, off + i * 2, none⟩ = some (.string l[i].1) ∧ w.cell? ⟨b, off + i * 2 + 1, none⟩ = some (.float .f64 l[i].2)
theorem TgsAt.later {w w' : World} {a : Option Addr} {l : List Tg} (h : TgsAt w a l) (hb : Below w.heap.size w w') : TgsAt w' a l :=
  ⟨h.lt, fun i hi => by obtain ⟨b, off, e, h1, h2⟩ := h.cell i hi; exact ⟨b, off, e, cell_later hb h1, cell_later hb h2⟩⟩
/-- A weight as it counts, times k. -/
def wt (k x : Nat) : Nat := if 0 < x ∧ x < fI then mulN x k else 0
theorem wt_le (k x : Nat) : wt k x ≤ fI := by
  unfold wt
  split
  · exact mulN_le _ _
  · omega
def sumN (k : Nat) (l : List Tg) : Nat := l.foldl (fun s t => addN s (wt k t.2)) 0
theorem sumN_snoc (k : Nat) (l : List Tg) (t : Tg) : sumN k (l ++ [t]) = addN (sumN k l) (wt k t.2) := by simp [sumN]
theorem sumN_take (k : Nat) (l : List Tg) (i : Nat) (hi : i < l.length) : sumN k (l.take (i + 1)) = addN (sumN k (l.take i)) (wt k l[i].2) := by
  rw [List.take_succ_eq_append_getElem hi, sumN_snoc]
theorem sumN_le (k : Nat) (l : List Tg) : sumN k l ≤ fI := by
  rcases List.eq_nil_or_concat l with rfl | ⟨l', t, rfl⟩
  · simp [sumN]
  · rw [List.concat_eq_append, sumN_snoc]; exact addN_le _ _
theorem isInf_calls (x : Nat) (w : World) (hx : x ≤ fI) : Calls Tryz.prog 46 #[.float .f64 x, .int .i64 1] w fun e w' => e = .returned (.bool (decide (x = fI))) ∧ w' = w := by
  have h1 : (FloatKind.f64.format.order x 9218868437227405311 == some Ordering.gt) = decide (x = fI) := by
    rw [gt_is hx (by decide)]
    simp only [fI] at hx ⊢
    exact decide_eq_decide.2 (by omega)
  clear hx
  go_enter Tryz.func46, Tryz.ntmps46
  go_wp2
  go_ret
  exact ⟨rfl, rfl⟩
set_option maxHeartbeats 4000000 in
theorem weight_calls (k x : Nat) (s : ByteArray) (w : World) (hk : k < fI) (hx : x < 18446744073709551616) :
    Calls Tryz.prog 57 #[.float .f64 k, .agg #[.string s, .float .f64 x]] w fun e w' => e = .returned (.float .f64 (wt k x)) ∧ Below w.heap.size w w' := by
  have B1 := hide (show Below w.heap.size w (w.alloc (.cells #[.string s, .float .f64 x] 41)) from (Below.refl _ _).alloc (Nat.le_refl _) _)
  by_cases h0 : 0 < x ∧ x ≤ fI
  · have g0 : (FloatKind.f64.format.order x 0 == some Ordering.gt) = true := by rw [gt0_is x hx]; exact decide_eq_true h0
    by_cases h1 : x = fI
    · have W := hide (show wt k x = 0 by unfold wt; rw [if_neg (by omega)])
      have ci := hide (isInf_calls x (w.alloc (.cells #[.string s, .float .f64 x] 41)) h0.2)
      rw [decide_eq_true h1] at ci
      clear h0 h1 hk hx
      go_enter Tryz.func57, Tryz.ntmps57
      go_wp2_with (go_at_call 46; refine (unhide ci).mono ?_; rintro e w' ⟨rfl, rfl⟩)
      go_ret
      exact ⟨by rw [unhide W]; rfl, unhide B1⟩
    · have W := hide (show wt k x = mulN x k by unfold wt; rw [if_pos (by omega)])
      have hm := run_mulF (x := x) (y := k) (by omega) hk
      have ci := hide (isInf_calls x (w.alloc (.cells #[.string s, .float .f64 x] 41)) h0.2)
      rw [decide_eq_false h1] at ci
      clear h0 h1 hk hx
      go_enter Tryz.func57, Tryz.ntmps57
      go_wp2_with (go_at_call 46; refine (unhide ci).mono ?_; rintro e w' ⟨rfl, rfl⟩)
      go_ret
      exact ⟨by rw [unhide W]; rfl, unhide B1⟩
  · have g0 : (FloatKind.f64.format.order x 0 == some Ordering.gt) = false := by rw [gt0_is x hx]; exact decide_eq_false h0
    have W := hide (show wt k x = 0 by unfold wt; rw [if_neg (by omega)])
    clear h0 hk hx
    go_enter Tryz.func57, Tryz.ntmps57
    go_wp2
    go_ret
    exact ⟨by rw [unhide W]; rfl, unhide B1⟩
section
variable {w : World} {a : Option Addr} {l : List Tg}
set_option maxRecDepth 20000 in
set_option maxHeartbeats 4000000 in
theorem sum_calls (k : Nat) (hk : k < fI) (h : TgsAt w a l) (n c : Nat) (hn : l.length = n) (hx : n ≤ maxLen) :
    Calls Tryz.prog 45 #[.float .f64 k, .slice a n c] w fun e w' => e = .returned (.float .f64 (sumN k l)) ∧ Below w.heap.size w w' := by
  have H := hide h
  have HN := hide hn
  simp only [maxLen] at hx
  clear h hn
  have hsf := run_storeF .plain
  go_enter Tryz.func45, Tryz.ntmps45
  go_wp2_with fail
  go_loopw [5, 10] (fun s i wr => ∃ j : Nat, j ≤ n ∧ i = .int .i64 (j : Int) ∧ s = .float .f64 (sumN k (l.take j)) ∧ Hid (Below w.heap.size w wr)) (fun _ i _ => n - (intOf i).toNat)
  case atStart => exact ⟨0, by omega, rfl, rfl, hide (Below.refl _ _)⟩
  case round =>
    obtain ⟨j, hj, rfl, rfl, B⟩ := hrel
    by_cases hjn : j < n
    · have y0 : (0 : Int) ≤ (j : Int) := by omega
      have y1 : (j : Int) < (n : Int) := by omega
      have hjl : j < l.length := by rw [unhide HN]; exact hjn
      obtain ⟨b, off, rfl, q0, q1⟩ := (unhide H).cell j hjl
      have p0 := cell_later (unhide B) q0
      have p1 := cell_later (unhide B) q1
      have ht := (unhide H).lt _ (List.getElem_mem hjl)
      have ST := hide (sumN_take k l j hjl)
      have ha := run_addF (sumN_le k (l.take j)) (wt_le k l[j].2)
      generalize l[j] = t at *
      obtain ⟨s, x⟩ := t
      simp only at p0 p1 ht ha ST
      have B1 := hide ((unhide B).alloc (unhide B).size (.cells #[.string s, .float .f64 x] 41))
      have WC := hide (weight_calls k x s (wr.alloc (.cells #[.string s, .float .f64 x] 41)) hk ht)
      generalize sumN k (l.take j) = sm at *
      generalize wt k x = y at *
      clear q0 q1
      go_wp2_with (go_at_call 57; refine (unhide WC).mono ?_; rintro e W1 ⟨rfl, b1⟩; have B2 := hide ((unhide B1).trans (b1.mono (unhide B1).size)); clear b1)
      exact ⟨⟨j + 1, by omega, by go_num, by rw [unhide ST], unhide B2⟩, by simp [intOf]; omega⟩
    · have hjj : ¬ (j : Int) < (n : Int) := by omega
      have e : l.take j = l := List.take_of_length_le (by rw [unhide HN]; omega)
      rw [e]
      clear e
      go_wp2
      go_ret
      exact ⟨rfl, unhide B⟩
/-- Whether a draw takes the target j. -/
def hitN (k x : Nat) (l : List Tg) (j : Nat) : Bool := decide (0 < wt k (l.getD j (⟨#[]⟩, 0)).2 ∧ x < sumN k (l.take (j + 1)))
/-- The first of the first j targets that a draw takes. -/
def firstN (k x : Nat) (l : List Tg) : Nat → Option Nat
  | 0 => none
  | j + 1 => match firstN k x l j with
    | some i => some i
    | none => if hitN k x l j = true then some j else none
theorem firstN_stays (k x : Nat) (l : List Tg) (j i : Nat) (h : firstN k x l j = some i) : ∀ n, j ≤ n → firstN k x l n = some i := by
  intro n hn
  induction n with
  | zero => have : j = 0 := by omega
            subst this; exact h
  | succ n ih =>
    by_cases he : j = n + 1
    · subst he; exact h
    · simp only [firstN, ih (by omega)]
/-- The last of the first j targets that counts (0, if there is none). -/
def lastN (k : Nat) (l : List Tg) : Nat → Nat
  | 0 => 0
  | j + 1 => if 0 < wt k (l.getD j (⟨#[]⟩, 0)).2 then j else lastN k l j
theorem getD_at (l : List Tg) (j : Nat) (hj : j < l.length) : l.getD j (⟨#[]⟩, 0) = l[j] := by
  rw [List.getD_eq_getElem?_getD, List.getElem?_eq_getElem hj]; rfl
def firstV : Option Nat → Value
  | some i => .tuple #[.int .i64 (i : Int), .bool true]
  | none => .tuple #[.int .i64 0, .bool false]
set_option maxRecDepth 20000 in
set_option maxHeartbeats 4000000 in
theorem first_calls (k : Nat) (hk : k < fI) (x x' : Nat) (hlt : ∀ y, y ≤ fI → (FloatKind.f64.format.order x y == some Ordering.lt) = decide (x' < y)) (h : TgsAt w a l) (n c : Nat) (hn : l.length = n) (hx : n ≤ maxLen) :
    Calls Tryz.prog 48 #[.float .f64 k, .slice a n c, .float .f64 x] w fun e w' => e = .returned (firstV (firstN k x' l n)) ∧ Below w.heap.size w w' := by
  have H := hide h
  have HN := hide hn
  have HL := hide hlt
  simp only [maxLen] at hx
  clear h hn hlt
  have hsf := run_storeF .plain
  go_enter Tryz.func48, Tryz.ntmps48
  go_wp2_with fail
  go_loopw [8, 14] (fun s i wr => ∃ j : Nat, j ≤ n ∧ i = .int .i64 (j : Int) ∧ s = .float .f64 (sumN k (l.take j)) ∧ Hid (firstN k x' l j = none) ∧ Hid (Below w.heap.size w wr)) (fun _ i _ => n - (intOf i).toNat)
  case atStart => exact ⟨0, by omega, rfl, rfl, hide rfl, hide (Below.refl _ _)⟩
  case round =>
    obtain ⟨j, hj, rfl, rfl, FN, B⟩ := hrel
    by_cases hjn : j < n
    · have y0 : (0 : Int) ≤ (j : Int) := by omega
      have y1 : (j : Int) < (n : Int) := by omega
      have hjl : j < l.length := by rw [unhide HN]; exact hjn
      obtain ⟨b, off, rfl, q0, q1⟩ := (unhide H).cell j hjl
      have p0 := cell_later (unhide B) q0
      have p1 := cell_later (unhide B) q1
      have ht := (unhide H).lt _ (List.getElem_mem hjl)
      have ST := hide (sumN_take k l j hjl)
      have ha := run_addF (sumN_le k (l.take j)) (wt_le k l[j].2)
      have hsl := addN_le (sumN k (l.take j)) (wt k l[j].2)
      have HH := hide (show hitN k x' l j = decide (0 < wt k l[j].2 ∧ x' < addN (sumN k (l.take j)) (wt k l[j].2)) by unfold hitN; rw [getD_at l j hjl, unhide ST])
      have wl := wt_le k l[j].2
      generalize l[j] = t at *
      obtain ⟨s, u⟩ := t
      simp only at p0 p1 ht ha ST HH hsl wl
      have B1 := hide ((unhide B).alloc (unhide B).size (.cells #[.string s, .float .f64 u] 41))
      have WC := hide (weight_calls k u s (wr.alloc (.cells #[.string s, .float .f64 u] 41)) hk ht)
      generalize sumN k (l.take j) = sm at *
      generalize wt k u = y at *
      have z1 : (FloatKind.f64.format.order y 0 == some Ordering.gt) = decide (0 < y) := by rw [gt0_is y (by simp only [fI] at wl; omega)]; exact decide_eq_decide.2 (by omega)
      have z2 : (FloatKind.f64.format.order x (addN sm y) == some Ordering.lt) = decide (x' < addN sm y) := unhide HL _ hsl
      generalize addN sm y = sn at *
      clear q0 q1 hsl wl ht hk
      by_cases c1 : 0 < y
      · rw [decide_eq_true c1] at z1
        by_cases c2 : x' < sn
        · rw [decide_eq_true c2] at z2
          have FF := hide (show firstN k x' l n = some j from firstN_stays k x' l (j + 1) j (by simp only [firstN, unhide FN]; rw [if_pos (by rw [unhide HH]; exact decide_eq_true ⟨c1, c2⟩)]) n (by omega))
          clear c1 c2
          go_wp2_with (go_at_call 57; refine (unhide WC).mono ?_; rintro e W1 ⟨rfl, b1⟩; have B2 := hide ((unhide B1).trans (b1.mono (unhide B1).size)); clear b1)
          go_ret2
          exact ⟨by rw [unhide FF]; rfl, unhide B2⟩
        · rw [decide_eq_false c2] at z2
          have FF := hide (show firstN k x' l (j + 1) = none by simp only [firstN, unhide FN]; rw [if_neg (by rw [unhide HH, decide_eq_false (fun q => c2 q.2)]; decide)])
          clear c1 c2
          go_wp2_with (go_at_call 57; refine (unhide WC).mono ?_; rintro e W1 ⟨rfl, b1⟩; have B2 := hide ((unhide B1).trans (b1.mono (unhide B1).size)); clear b1)
          exact ⟨⟨j + 1, by omega, by go_num, by rw [unhide ST], unhide FF, unhide B2⟩, by simp [intOf]; omega⟩
      · rw [decide_eq_false c1] at z1
        have FF := hide (show firstN k x' l (j + 1) = none by simp only [firstN, unhide FN]; rw [if_neg (by rw [unhide HH, decide_eq_false (fun q => c1 q.1)]; decide)])
        clear c1 z2
        go_wp2_with (go_at_call 57; refine (unhide WC).mono ?_; rintro e W1 ⟨rfl, b1⟩; have B2 := hide ((unhide B1).trans (b1.mono (unhide B1).size)); clear b1)
        exact ⟨⟨j + 1, by omega, by go_num, by rw [unhide ST], unhide FF, unhide B2⟩, by simp [intOf]; omega⟩
    · have hjj : ¬ (j : Int) < (n : Int) := by omega
      obtain rfl : j = n := by omega
      go_wp2
      go_ret2
      exact ⟨by rw [unhide FN]; rfl, unhide B⟩
set_option maxRecDepth 20000 in
set_option maxHeartbeats 4000000 in
theorem last_calls (k : Nat) (hk : k < fI) (h : TgsAt w a l) (n c : Nat) (hn : l.length = n) (hx : n ≤ maxLen) (h1 : 0 < n) :
    Calls Tryz.prog 47 #[.float .f64 k, .slice a n c] w fun e w' => e = .returned (.int .i64 (lastN k l n : Int)) ∧ Below w.heap.size w w' := by
  have H := hide h
  have HN := hide hn
  simp only [maxLen] at hx
  clear h hn
  have hsub : IntKind.i64.wrap ((n : Int) - 1) = ((n - 1 : Nat) : Int) := by rw [IntKind.wrap_i64]; omega
  go_enter Tryz.func47, Tryz.ntmps47
  go_wp2_with fail
  go_loopw [5] (fun i wr => ∃ j : Nat, j < n ∧ i = .int .i64 (j : Int) ∧ Hid (lastN k l n = lastN k l (j + 1)) ∧ Hid (Below w.heap.size w wr)) (fun i _ => (intOf i).toNat)
  case atStart => exact ⟨n - 1, by omega, by first | rfl | (congr 1; omega), hide (by rw [Nat.sub_add_cancel h1]), hide (Below.refl _ _)⟩
  case round =>
    obtain ⟨j, hj, rfl, LN, B⟩ := hrel
    by_cases hj0 : 0 < j
    · have y0 : (0 : Int) ≤ (j : Int) := by omega
      have y1 : (j : Int) < (n : Int) := by omega
      have y2 : (0 : Int) < (j : Int) := by omega
      have hjl : j < l.length := by rw [unhide HN]; exact hj
      obtain ⟨b, off, rfl, q0, q1⟩ := (unhide H).cell j hjl
      have p0 := cell_later (unhide B) q0
      have p1 := cell_later (unhide B) q1
      have ht := (unhide H).lt _ (List.getElem_mem hjl)
      have wl := wt_le k l[j].2
      have HL := hide (show lastN k l (j + 1) = if 0 < wt k l[j].2 then j else lastN k l j by simp only [lastN, getD_at l j hjl])
      generalize l[j] = t at *
      obtain ⟨s, u⟩ := t
      simp only at p0 p1 ht wl HL
      have WC := hide (weight_calls k u s wr hk ht)
      generalize wt k u = y at *
      have z1 : (FloatKind.f64.format.order y 0 == some Ordering.gt) = decide (0 < y) := by rw [gt0_is y (by simp only [fI] at wl; omega)]; exact decide_eq_decide.2 (by omega)
      clear q0 q1 wl ht
      by_cases c1 : 0 < y
      · rw [decide_eq_true c1] at z1
        rw [if_pos c1] at HL
        clear c1
        go_wp2_with (go_at_call 57; refine (unhide WC).mono ?_; rintro e W1 ⟨rfl, b1⟩; have B2 := hide ((unhide B).trans (b1.mono (unhide B).size)); clear b1)
        go_ret
        exact ⟨by rw [unhide LN, unhide HL]; rfl, unhide B2⟩
      · rw [decide_eq_false c1] at z1
        rw [if_neg c1] at HL
        clear c1
        have hs2 : IntKind.i64.wrap ((j : Int) - 1) = ((j - 1 : Nat) : Int) := by rw [IntKind.wrap_i64]; omega
        go_wp2_with (go_at_call 57; refine (unhide WC).mono ?_; rintro e W1 ⟨rfl, b1⟩; have B2 := hide ((unhide B).trans (b1.mono (unhide B).size)); clear b1)
        exact ⟨⟨j - 1, by omega, by first | rfl | (congr 1; omega), hide (by rw [Nat.sub_add_cancel hj0]; exact (unhide LN).trans (unhide HL)), unhide B2⟩, by simp [intOf]; omega⟩
    · obtain rfl : j = 0 := by omega
      have HL := hide (show lastN k l 1 = 0 by simp only [lastN]; split <;> rfl)
      go_wp2
      go_ret
      exact ⟨by rw [unhide LN, unhide HL]; rfl, unhide B⟩
end
end Go.Proofs.YtcmiappiocfbiaaGreatDoor
end
/- Floats: draws of any bits; sums of weights that were made smaller. -/
section
namespace Go.Proofs.YtcmiappiocfbiaaGreatDoor
open Ieee

theorem read_neg (d : Nat) (h1 : 9223372036854775808 ≤ d) (h2 : d < 18446744073709551616) : (∃ m p, double.read d = .number true m p ∧ (m = 0 ↔ d = 9223372036854775808)) ∨ double.read d = .infinity true ∨ ∃ f, double.read d = .nan true f := by
  unfold Format.read
  simp only [sign_is, binade_is, infRung_is, leastPlace_is]
  have h3 : d / 9223372036854775808 = 1 := by omega
  rw [h3]
  show (∃ m p, (if d % 9223372036854775808 < fB then Datum.number true (d % 9223372036854775808) (-1074) else if d % 9223372036854775808 < fI then Datum.number true (fB + d % 9223372036854775808 % fB) (-1074 + ((d % 9223372036854775808 / fB - 1 : Nat) : Int)) else if d % 9223372036854775808 = fI then Datum.infinity true else Datum.nan true (d % 9223372036854775808 - fI)) = Datum.number true m p ∧ (m = 0 ↔ d = 9223372036854775808)) ∨ _ ∨ _
  split
  · exact .inl ⟨_, _, rfl, by omega⟩
  · rename_i hb
    split
    · refine .inl ⟨_, _, rfl, ?_⟩
      simp only [fB] at hb ⊢
      omega
    · split
      · exact .inr (.inl rfl)
      · exact .inr (.inr ⟨_, rfl⟩)
theorem read_nan (d : Nat) (h1 : fI < d) (h2 : d < 9223372036854775808) : ∃ f, double.read d = .nan false f := by
  rw [read_is d h2, if_neg (by simp only [fB, fI] at h1 ⊢; omega), if_neg (by omega), if_neg (by omega)]
  exact ⟨_, rfl⟩
theorem read_pos (y : Nat) (hy : y ≤ fI) : (∃ n q, double.read y = .number false n q ∧ (n = 0 ↔ y = 0)) ∨ (double.read y = .infinity false ∧ y = fI) := by
  by_cases h : y = fI
  · exact .inr ⟨by rw [h]; exact read_inf, h⟩
  · obtain ⟨m, i, e, v⟩ := read_val y (by omega)
    refine .inl ⟨m, _, e, ?_⟩
    constructor
    · rintro rfl
      rw [Nat.zero_mul] at v
      rcases Nat.eq_zero_or_pos y with h0 | h0
      · exact h0
      · have := (val_lt (x := 0) (y := y) (by decide) (by omega)).2 h0
        omega
    · rintro rfl
      have : val 0 = 0 := by decide
      rw [this] at v
      rcases Nat.eq_zero_or_pos m with h0 | h0
      · exact h0
      · have := Nat.mul_pos h0 (Nat.two_pow_pos i)
        omega
theorem signed_neg (m k : Nat) : signed true m k = -((m * 2 ^ k : Nat) : Int) := by simp [signed, Nat.shiftLeft_eq]
/-- What is below 0, or no number, is neither above nor as great as what is above 0. -/
theorem order_big (d y : Nat) (h1 : fI < d) (h2 : d < 18446744073709551616) (hy : y ≤ fI) : (double.order d y == some Ordering.gt) = false ∧ (double.order d y == some Ordering.eq) = decide (d = 9223372036854775808 ∧ y = 0) := by
  unfold Format.order
  by_cases h63 : d < 9223372036854775808
  · obtain ⟨f, e⟩ := read_nan d h1 h63
    rw [e, decide_eq_false (by omega)]
    exact ⟨rfl, rfl⟩
  · rcases read_neg d (by omega) h2 with ⟨m, p, e, hm⟩ | e | ⟨f, e⟩
    · rw [e]
      rcases read_pos y hy with ⟨n, q, e2, hn⟩ | ⟨e2, hy2⟩
      · rw [e2]
        simp only [Datum.order, signed_neg, signed_pos]
        have a1 := Nat.two_pow_pos (p - min p q).toNat
        have a2 := Nat.two_pow_pos (q - min p q).toNat
        generalize (p - min p q).toNat = u at *
        generalize (q - min p q).toNat = v at *
        have z1 : m * 2 ^ u = 0 ↔ m = 0 := by rw [Nat.mul_eq_zero]; omega
        have z2 : n * 2 ^ v = 0 ↔ n = 0 := by rw [Nat.mul_eq_zero]; omega
        generalize m * 2 ^ u = M at *
        generalize n * 2 ^ v = K at *
        by_cases h0 : M = 0 ∧ K = 0
        · rw [h0.1, h0.2, decide_eq_true ⟨hm.1 (z1.1 h0.1), hn.1 (z2.1 h0.2)⟩]
          exact ⟨rfl, rfl⟩
        · have hlt : compare (-((M : Nat) : Int)) ((K : Nat) : Int) = Ordering.lt := Int.compare_eq_lt.2 (by omega)
          rw [hlt, decide_eq_false (fun q => h0 ⟨z1.2 (hm.2 q.1), z2.2 (hn.2 q.2)⟩)]
          exact ⟨rfl, rfl⟩
      · rw [e2, decide_eq_false (by rintro ⟨_, h⟩; rw [h] at hy2; exact absurd hy2 (by decide))]
        exact ⟨rfl, rfl⟩
    · rw [e]
      have hd : ¬ d = 9223372036854775808 := by
        rintro rfl
        exact absurd e (by decide)
      rw [decide_eq_false (fun q => hd q.1)]
      rcases read_pos y hy with ⟨n, q, e2, _⟩ | ⟨e2, _⟩
      · rw [e2]; exact ⟨rfl, rfl⟩
      · rw [e2]; exact ⟨rfl, rfl⟩
    · have hd : ¬ d = 9223372036854775808 := by
        rintro rfl
        have r : double.read 9223372036854775808 = .number true 0 (-1074) := by decide
        rw [r] at e
        cases e
      rw [e, decide_eq_false (fun q => hd q.1)]
      rcases read_pos y hy with ⟨n, q, e2, _⟩ | ⟨e2, _⟩
      · rw [e2]; exact ⟨rfl, rfl⟩
      · rw [e2]; exact ⟨rfl, rfl⟩
theorem ge_is (d y : Nat) (hd : d < 18446744073709551616) (hy : y ≤ fI) (h0 : 0 < y) : (double.order d y == some Ordering.gt || double.order d y == some Ordering.eq) = decide (y ≤ d ∧ d ≤ fI) := by
  by_cases h : d ≤ fI
  · rw [order_is h hy]
    rcases Nat.lt_trichotomy d y with h1 | h1 | h1
    · rw [Nat.compare_eq_lt.2 h1, decide_eq_false (by omega)]; rfl
    · rw [Nat.compare_eq_eq.2 h1, decide_eq_true (by omega)]; rfl
    · rw [Nat.compare_eq_gt.2 h1, decide_eq_true (by omega)]; rfl
  · obtain ⟨a, b⟩ := order_big d y (by omega) hd hy
    rw [a, b, decide_eq_false (by omega), decide_eq_false (by omega)]; rfl
theorem ge0_is (d : Nat) (hd : d < 18446744073709551616) : (double.order d 0 == some Ordering.gt || double.order d 0 == some Ordering.eq) = decide (d ≤ fI ∨ d = 9223372036854775808) := by
  by_cases h : d ≤ fI
  · rw [order_is h (by decide), decide_eq_true (.inl h)]
    rcases Nat.eq_zero_or_pos d with h1 | h1
    · rw [Nat.compare_eq_eq.2 h1]; rfl
    · rw [Nat.compare_eq_gt.2 h1]; rfl
  · obtain ⟨a, b⟩ := order_big d 0 (by omega) hd (by decide)
    rw [a, b]
    by_cases h1 : d = 9223372036854775808
    · rw [decide_eq_true ⟨h1, rfl⟩, decide_eq_true (.inr h1)]; rfl
    · rw [decide_eq_false (fun q => h1 q.1), decide_eq_false (by omega)]; rfl
theorem mul_neg0 (s : Nat) (hs : s < fI) : double.mul 9223372036854775808 s = some 9223372036854775808 := by
  have r : double.read 9223372036854775808 = .number true 0 (-1074) := by decide
  obtain ⟨m, i, e, _⟩ := read_val s hs
  unfold Format.mul
  rw [r, e]
  simp only [Datum.product, Option.map_some, Nat.zero_mul]
  unfold Format.write Format.nearest
  simp only [if_true]
  decide
theorem lt_neg0 (y : Nat) (hy : y ≤ fI) : (double.order 9223372036854775808 y == some Ordering.lt) = decide (0 < y) := by
  have r : double.read 9223372036854775808 = .number true 0 (-1074) := by decide
  unfold Format.order
  rw [r]
  rcases read_pos y hy with ⟨n, q, e2, hn⟩ | ⟨e2, hy2⟩
  · rw [e2]
    simp only [Datum.order, signed_neg, signed_pos, Nat.zero_mul]
    have a2 := Nat.two_pow_pos (q - min (-1074) q).toNat
    have z2 : n * 2 ^ (q - min (-1074) q).toNat = 0 ↔ n = 0 := by rw [Nat.mul_eq_zero]; omega
    generalize n * 2 ^ (q - min (-1074) q).toNat = K at *
    by_cases h0 : 0 < y
    · have : compare (-((0 : Nat) : Int)) ((K : Nat) : Int) = Ordering.lt := by
        have hK : ¬ K = 0 := fun e => by
          have := hn.1 (z2.1 e)
          omega
        exact Int.compare_eq_lt.2 (by omega)
      rw [this, decide_eq_true h0]; rfl
    · have : compare (-((0 : Nat) : Int)) ((K : Nat) : Int) = Ordering.eq := by
        have hK : K = 0 := z2.2 (hn.2 (by omega))
        exact Int.compare_eq_eq.2 (by omega)
      rw [this, decide_eq_false h0]; rfl
  · rw [e2, decide_eq_true (by rw [hy2]; decide)]; rfl
end Go.Proofs.YtcmiappiocfbiaaGreatDoor
end
/- Plane: the target that a draw takes. -/
section
namespace Go.Proofs.YtcmiappiocfbiaaGreatDoor
open Go.ChangeShapes Go.WideShapes Go.ChangeAt Go.RowKit

abbrev fK1 : Nat := 4607182418800017408
abbrev fK2 : Nat := 4562146422526312448
theorem val_K1 : val fK1 = pw 1074 := by
  rw [val_pw _ (by decide), show fK1 / fB - 1 = 1022 from by decide, show fB + fK1 % fB = pw 52 from by decide]
  exact (pw_add 52 1022).symm
theorem val_K2 : val fK2 = pw 1064 := by
  rw [val_pw _ (by decide), show fK2 / fB - 1 = 1012 from by decide, show fB + fK2 % fB = pw 52 from by decide]
  exact (pw_add 52 1012).symm
theorem val_top : val 9218868437227405311 < pw 2098 := by
  rw [val_pw _ (by decide), show 9218868437227405311 / fB - 1 = 2045 from by decide, show (2098 : Nat) = 53 + 2045 from rfl, pw_add]
  exact Nat.mul_lt_mul_of_pos_right (by decide) (pw_pos _)
theorem val_bound {x : Nat} (hx : x < fI) : val x < pw 2098 := by
  have h1 : val x ≤ val 9218868437227405311 := (val_le hx (by decide)).2 (by simp only [fI] at hx; omega)
  exact Nat.lt_of_le_of_lt h1 val_top
/-- The rung of n times 2^1014. -/
def rungN (n : Nat) : Nat := near 1074 (n * pw 2088)
theorem rungN_val (n : Nat) (hn : n ≤ 1000) : rungN n < fI ∧ val (rungN n) = n * pw 2088 := by
  have h53 : n < 2 ^ 53 := Nat.lt_of_le_of_lt hn (by decide)
  have hlt : n * pw 2088 < pw 2098 := by
    rw [show (2098 : Nat) = 10 + 2088 from rfl, pw_add]
    exact Nat.mul_lt_mul_of_pos_right (Nat.lt_of_le_of_lt hn (by decide)) (pw_pos _)
  obtain ⟨x, h1, h2, h3⟩ := exact_val n 2088 2098 (pw 2088) rfl (Nat.le_refl _) h53 hlt
  unfold rungN
  rw [h3]
  exact ⟨h1, h2⟩
theorem wt_K2 (x : Nat) : wt fK2 x ≤ rungN 1 := by
  unfold wt
  split
  · rename_i h
    unfold mulN rungN
    have h1 : val x * val fK2 ≤ pw 2098 * pw 1064 := by
      rw [val_K2]
      exact Nat.mul_le_mul_right _ (Nat.le_of_lt (val_bound h.2))
    refine Nat.le_trans (near_mono 2148 h1) ?_
    have e : pw 2098 * pw 1064 = pw 2088 * pw 1074 := by rw [← pw_add, ← pw_add]
    rw [e, Nat.one_mul]
    exact Nat.le_of_eq (near_pw 1074 (pw 2088) 1074)
  · exact Nat.zero_le _
theorem addN_mono {a b c d : Nat} (ha : a ≤ c) (hb : b ≤ d) (hc : c < fI) (hd : d < fI) : addN a b ≤ addN c d := by
  unfold addN
  rw [if_neg (by omega), if_neg (by omega)]
  exact near_mono _ (Nat.add_le_add ((val_le (by omega) hc).2 ha) ((val_le (by omega) hd).2 hb))
theorem sumN_K2 (l : List Tg) (h : l.length ≤ 1000) : sumN fK2 l ≤ rungN l.length := by
  induction hn : l.length generalizing l with
  | zero =>
    have : l = [] := List.eq_nil_of_length_eq_zero hn
    subst this
    exact Nat.zero_le _
  | succ n ih =>
    rcases List.eq_nil_or_concat l with rfl | ⟨l', t, rfl⟩
    · simp at hn
    · rw [List.concat_eq_append] at hn h ⊢
      rw [List.length_append, List.length_singleton] at hn h
      have hl : l'.length = n := by omega
      rw [sumN_snoc]
      have h1 := ih l' (by omega) hl
      obtain ⟨a1, a2⟩ := rungN_val n (by omega)
      obtain ⟨b1, b2⟩ := rungN_val 1 (by omega)
      refine Nat.le_trans (addN_mono h1 (wt_K2 t.2) a1 b1) ?_
      unfold addN
      rw [if_neg (by omega), a2, b2, ← Nat.add_mul]
      exact Nat.le_refl _
def scaleN (l : List Tg) : Nat := if sumN fK1 l = fI then fK2 else fK1
theorem scaleN_lt (l : List Tg) : scaleN l < fI := by unfold scaleN; split <;> decide
theorem sum_lt (l : List Tg) (h : l.length ≤ 1000) : sumN (scaleN l) l < fI := by
  unfold scaleN
  split
  · exact Nat.lt_of_le_of_lt (sumN_K2 l h) (rungN_val _ h).1
  · rename_i h1
    have := sumN_le fK1 l
    omega
def drawN (d : Nat) : Nat := if d ≤ fI then d else 0
def takeN (l : List Tg) (d : Nat) : Nat := if fK1 ≤ d ∧ d ≤ fI then lastN (scaleN l) l l.length else (firstN (scaleN l) (mulN (drawN d) (sumN (scaleN l) l)) l l.length).getD (lastN (scaleN l) l l.length)
def weighN (l : List Tg) (d : Nat) : Option Nat := if sumN (scaleN l) l = 0 then none else some (takeN l d)
theorem sumN_nil (k : Nat) : sumN k [] = 0 := rfl
section
variable {w : World} {a : Option Addr} {l : List Tg}
/-- The call with the draw made right, as far as the steps behind it go. -/
theorem drawn (d : Nat) (hd : d < 18446744073709551616) (h1 : ¬ (fK1 ≤ d ∧ d ≤ fI)) (s : Nat) (hs : s < fI) : ∃ d2 x, ((FloatKind.f64.format.order d 0 == some Ordering.gt || FloatKind.f64.format.order d 0 == some Ordering.eq) = true ∧ d2 = d ∨ (FloatKind.f64.format.order d 0 == some Ordering.gt || FloatKind.f64.format.order d 0 == some Ordering.eq) = false ∧ d2 = 0) ∧ (∀ t w, (binOp .mul t (.float .f64 d2) (.float .f64 s)).run Tryz.prog w = .ok (.float .f64 x) w) ∧ ∀ y, y ≤ fI → (FloatKind.f64.format.order x y == some Ordering.lt) = decide (mulN (drawN d) s < y) := by
  rw [show (FloatKind.f64.format.order d 0 == some Ordering.gt || FloatKind.f64.format.order d 0 == some Ordering.eq) = _ from ge0_is d hd]
  by_cases hI : d ≤ fI
  · have hdI : d < fI := by simp only [fK1, fI] at h1 hI ⊢; omega
    refine ⟨d, mulN d s, .inl ⟨decide_eq_true (.inl hI), rfl⟩, run_mulF hdI hs, fun y hy => ?_⟩
    rw [lt_is (mulN_le _ _) hy]
    unfold drawN
    rw [if_pos hI]
  · have hz : mulN (drawN d) s = 0 := by
      unfold drawN mulN
      rw [if_neg hI, show val 0 = 0 from by decide, Nat.zero_mul, near_zero]
    rw [hz]
    by_cases hn : d = 9223372036854775808
    · exact ⟨d, 9223372036854775808, .inl ⟨decide_eq_true (.inr hn), rfl⟩, fun t w => by rw [hn]; exact run_float_arith w .mul t .f64 _ s _ (mul_neg0 s hs), fun y hy => lt_neg0 y hy⟩
    · refine ⟨0, mulN 0 s, .inr ⟨decide_eq_false (by omega), rfl⟩, run_mulF (by decide) hs, fun y hy => ?_⟩
      rw [lt_is (mulN_le _ _) hy]
      have : mulN 0 s = 0 := by
        unfold mulN
        rw [show val 0 = 0 from by decide, Nat.zero_mul, near_zero]
      rw [this]
set_option maxRecDepth 20000 in
set_option maxHeartbeats 4000000 in
theorem weigh_calls (h : TgsAt w a l) (n c : Nat) (hn : l.length = n) (hx : n ≤ 1000) (d : Nat) (hd : d < 18446744073709551616) :
    Calls Tryz.prog 25 #[.slice a n c, .float .f64 d] w fun e w' => e = .returned (firstV (weighN l d)) ∧ Below w.heap.size w w' := by
  have hml : n ≤ maxLen := by simp only [maxLen]; omega
  have SC1 := hide (sum_calls (w := w) 4607182418800017408 (by decide) h n c hn hml)
  have SCW := hide (fun W (hb : Below w.heap.size w W) => sum_calls (w := W) 4562146422526312448 (by decide) (h.later hb) n c hn hml)
  have IC := hide (fun W => isInf_calls (sumN 4607182418800017408 l) W (sumN_le _ _))
  have hsl := sum_lt l (by omega)
  have TK := hide (show takeN l d = if fK1 ≤ d ∧ d ≤ fI then lastN (scaleN l) l n else (firstN (scaleN l) (mulN (drawN d) (sumN (scaleN l) l)) l n).getD (lastN (scaleN l) l n) by unfold takeN; rw [hn])
  have WN := hide (show weighN l d = if sumN (scaleN l) l = 0 then none else some (takeN l d) from rfl)
  have N0 := hide (show ¬ sumN (scaleN l) l = 0 → 0 < n from fun q => by
    rcases Nat.eq_zero_or_pos n with h0 | h0
    · have : l = [] := List.eq_nil_of_length_eq_zero (by omega)
      rw [this] at q
      exact absurd (sumN_nil _) q
    · exact h0)
  have FC := hide (fun W (hb : Below w.heap.size w W) x x' hlt => first_calls (w := W) (scaleN l) (scaleN_lt l) x x' hlt (h.later hb) n c hn hml)
  have LC := hide (fun W (hb : Below w.heap.size w W) q => last_calls (w := W) (scaleN l) (scaleN_lt l) (h.later hb) n c hn hml q)
  have DR := hide (fun (h1 : ¬ (fK1 ≤ d ∧ d ≤ fI)) => drawn d hd h1 (sumN (scaleN l) l) hsl)
  have hge : (FloatKind.f64.format.order d 4607182418800017408 == some Ordering.gt || FloatKind.f64.format.order d 4607182418800017408 == some Ordering.eq) = decide (fK1 ≤ d ∧ d ≤ fI) := ge_is d fK1 hd (by decide) (by decide)
  have hg := gt0_is (sumN (scaleN l) l) (by simp only [fI] at hsl; omega)
  have hsI := Nat.le_of_lt hsl
  clear h hn hml
  by_cases hI : sumN 4607182418800017408 l = fI
  · have hsc : scaleN l = fK2 := by unfold scaleN; rw [if_pos hI]
    rw [hsc] at hsl hsI WN TK N0 FC LC DR hg
    rw [show decide (sumN 4607182418800017408 l = fI) = true from decide_eq_true hI] at IC
    clear hsc hI
    generalize sumN 4607182418800017408 l = s1 at *
    generalize sumN fK2 l = s at *
    by_cases hs0 : s = 0
    · have E := hide (show weighN l d = none by rw [unhide WN, if_pos hs0])
      rw [decide_eq_false (by omega)] at hg
      clear hs0 hge
      go_enter Tryz.func25, Tryz.ntmps25
      go_wp2_with (first
          | (have hV : B1 = B1 := rfl
             clear hV
             go_at_call 45
             refine (unhide SCW _ (unhide B1)).mono ?_
             rintro e W2 ⟨rfl, b2⟩
             have B2 := hide ((unhide B1).trans (b2.mono (unhide B1).size))
             clear b2)
          | (go_at_call 46
             refine (unhide IC _).mono ?_
             rintro e W1 ⟨rfl, rfl⟩)
          | (go_at_call 45
             refine (unhide SC1).mono ?_
             rintro e W1 ⟨rfl, b1⟩
             have B1 := hide b1
             clear b1))
      go_ret2
      exact ⟨by rw [unhide E]; rfl, unhide B2⟩
    · rw [decide_eq_true (by omega)] at hg
      have hn0 := unhide N0 hs0
      by_cases h1 : fK1 ≤ d ∧ d ≤ fI
      · have E := hide (show weighN l d = some (lastN fK2 l n) by rw [unhide WN, if_neg hs0, unhide TK, if_pos h1])
        rw [decide_eq_true h1] at hge
        clear h1 hs0
        go_enter Tryz.func25, Tryz.ntmps25
        go_wp2_with (first
            | (have hV : B1 = B1 := rfl
               clear hV
               go_at_call 45
               refine (unhide SCW _ (unhide B1)).mono ?_
               rintro e W2 ⟨rfl, b2⟩
               have B2 := hide ((unhide B1).trans (b2.mono (unhide B1).size))
               clear b2)
            | (go_at_call 46
               refine (unhide IC _).mono ?_
               rintro e W1 ⟨rfl, rfl⟩)
            | (go_at_call 45
               refine (unhide SC1).mono ?_
               rintro e W1 ⟨rfl, b1⟩
               have B1 := hide b1
               clear b1)
            | (go_at_call 47
               refine (unhide LC _ (unhide B2) (by assumption)).mono ?_
               rintro e W5 ⟨rfl, b5⟩
               have B5 := hide ((unhide B2).trans (b5.mono (unhide B2).size))
               clear b5))
        go_ret2
        exact ⟨by rw [unhide E]; rfl, unhide B5⟩
      · have E := hide (show weighN l d = some ((firstN fK2 (mulN (drawN d) s) l n).getD (lastN fK2 l n)) by rw [unhide WN, if_neg hs0, unhide TK, if_neg h1])
        obtain ⟨d2, x, hdd, hmul, hlt⟩ := unhide DR h1
        have FX := hide (fun W hb => unhide FC W hb x (mulN (drawN d) s) hlt)
        rw [decide_eq_false h1] at hge
        clear h1 hs0 hlt
        generalize mulN (drawN d) s = y at *
        rcases hdd with ⟨hz, rfl⟩ | ⟨hz, rfl⟩
        · cases hf : firstN fK2 y l n with
          | some i =>
            rw [hf] at FX E
            unfold firstV at FX
            go_enter Tryz.func25, Tryz.ntmps25
            go_wp2_with (first
                | (have hV : B1 = B1 := rfl
                   clear hV
                   go_at_call 45
                   refine (unhide SCW _ (unhide B1)).mono ?_
                   rintro e W2 ⟨rfl, b2⟩
                   have B2 := hide ((unhide B1).trans (b2.mono (unhide B1).size))
                   clear b2)
                | (go_at_call 46
                   refine (unhide IC _).mono ?_
                   rintro e W1 ⟨rfl, rfl⟩)
                | (go_at_call 45
                   refine (unhide SC1).mono ?_
                   rintro e W1 ⟨rfl, b1⟩
                   have B1 := hide b1
                   clear b1)
                | (go_at_call 48
                   refine (unhide FX _ (unhide B2)).mono ?_
                   rintro e W4 ⟨rfl, b4⟩
                   have B4 := hide ((unhide B2).trans (b4.mono (unhide B2).size))
                   clear b4))
            go_ret2
            exact ⟨by rw [unhide E]; rfl, unhide B4⟩
          | none =>
            rw [hf] at FX E
            unfold firstV at FX
            go_enter Tryz.func25, Tryz.ntmps25
            go_wp2_with (first
                | (have hV : B1 = B1 := rfl
                   clear hV
                   go_at_call 45
                   refine (unhide SCW _ (unhide B1)).mono ?_
                   rintro e W2 ⟨rfl, b2⟩
                   have B2 := hide ((unhide B1).trans (b2.mono (unhide B1).size))
                   clear b2)
                | (go_at_call 46
                   refine (unhide IC _).mono ?_
                   rintro e W1 ⟨rfl, rfl⟩)
                | (go_at_call 45
                   refine (unhide SC1).mono ?_
                   rintro e W1 ⟨rfl, b1⟩
                   have B1 := hide b1
                   clear b1)
                | (go_at_call 48
                   refine (unhide FX _ (unhide B2)).mono ?_
                   rintro e W4 ⟨rfl, b4⟩
                   have B4 := hide ((unhide B2).trans (b4.mono (unhide B2).size))
                   clear b4)
                | (go_at_call 47
                   refine (unhide LC _ (unhide B4) (by assumption)).mono ?_
                   rintro e W5 ⟨rfl, b5⟩
                   have B5 := hide ((unhide B4).trans (b5.mono (unhide B4).size))
                   clear b5))
            go_ret2
            exact ⟨by rw [unhide E]; rfl, unhide B5⟩
        · cases hf : firstN fK2 y l n with
          | some i =>
            rw [hf] at FX E
            unfold firstV at FX
            go_enter Tryz.func25, Tryz.ntmps25
            go_wp2_with (first
                | (have hV : B1 = B1 := rfl
                   clear hV
                   go_at_call 45
                   refine (unhide SCW _ (unhide B1)).mono ?_
                   rintro e W2 ⟨rfl, b2⟩
                   have B2 := hide ((unhide B1).trans (b2.mono (unhide B1).size))
                   clear b2)
                | (go_at_call 46
                   refine (unhide IC _).mono ?_
                   rintro e W1 ⟨rfl, rfl⟩)
                | (go_at_call 45
                   refine (unhide SC1).mono ?_
                   rintro e W1 ⟨rfl, b1⟩
                   have B1 := hide b1
                   clear b1)
                | (go_at_call 48
                   refine (unhide FX _ (unhide B2)).mono ?_
                   rintro e W4 ⟨rfl, b4⟩
                   have B4 := hide ((unhide B2).trans (b4.mono (unhide B2).size))
                   clear b4))
            go_ret2
            exact ⟨by rw [unhide E]; rfl, unhide B4⟩
          | none =>
            rw [hf] at FX E
            unfold firstV at FX
            go_enter Tryz.func25, Tryz.ntmps25
            go_wp2_with (first
                | (have hV : B1 = B1 := rfl
                   clear hV
                   go_at_call 45
                   refine (unhide SCW _ (unhide B1)).mono ?_
                   rintro e W2 ⟨rfl, b2⟩
                   have B2 := hide ((unhide B1).trans (b2.mono (unhide B1).size))
                   clear b2)
                | (go_at_call 46
                   refine (unhide IC _).mono ?_
                   rintro e W1 ⟨rfl, rfl⟩)
                | (go_at_call 45
                   refine (unhide SC1).mono ?_
                   rintro e W1 ⟨rfl, b1⟩
                   have B1 := hide b1
                   clear b1)
                | (go_at_call 48
                   refine (unhide FX _ (unhide B2)).mono ?_
                   rintro e W4 ⟨rfl, b4⟩
                   have B4 := hide ((unhide B2).trans (b4.mono (unhide B2).size))
                   clear b4)
                | (go_at_call 47
                   refine (unhide LC _ (unhide B4) (by assumption)).mono ?_
                   rintro e W5 ⟨rfl, b5⟩
                   have B5 := hide ((unhide B4).trans (b5.mono (unhide B4).size))
                   clear b5))
            go_ret2
            exact ⟨by rw [unhide E]; rfl, unhide B5⟩
  · have hsc : scaleN l = fK1 := by unfold scaleN; rw [if_neg hI]
    rw [hsc] at hsl hsI WN TK N0 FC LC DR hg
    rw [show decide (sumN 4607182418800017408 l = fI) = false from decide_eq_false hI] at IC
    clear hsc hI
    generalize sumN fK1 l = s at *
    by_cases hs0 : s = 0
    · have E := hide (show weighN l d = none by rw [unhide WN, if_pos hs0])
      rw [decide_eq_false (by omega)] at hg
      clear hs0 hge
      go_enter Tryz.func25, Tryz.ntmps25
      go_wp2_with (first
          | (go_at_call 46
             refine (unhide IC _).mono ?_
             rintro e W1 ⟨rfl, rfl⟩)
          | (go_at_call 45
             refine (unhide SC1).mono ?_
             rintro e W1 ⟨rfl, b1⟩
             have B1 := hide b1
             clear b1))
      go_ret2
      exact ⟨by rw [unhide E]; rfl, unhide B1⟩
    · rw [decide_eq_true (by omega)] at hg
      have hn0 := unhide N0 hs0
      by_cases h1 : fK1 ≤ d ∧ d ≤ fI
      · have E := hide (show weighN l d = some (lastN fK1 l n) by rw [unhide WN, if_neg hs0, unhide TK, if_pos h1])
        rw [decide_eq_true h1] at hge
        clear h1 hs0
        go_enter Tryz.func25, Tryz.ntmps25
        go_wp2_with (first
            | (go_at_call 46
               refine (unhide IC _).mono ?_
               rintro e W1 ⟨rfl, rfl⟩)
            | (go_at_call 45
               refine (unhide SC1).mono ?_
               rintro e W1 ⟨rfl, b1⟩
               have B1 := hide b1
               clear b1)
            | (go_at_call 47
               refine (unhide LC _ (unhide B1) (by assumption)).mono ?_
               rintro e W5 ⟨rfl, b5⟩
               have B5 := hide ((unhide B1).trans (b5.mono (unhide B1).size))
               clear b5))
        go_ret2
        exact ⟨by rw [unhide E]; rfl, unhide B5⟩
      · have E := hide (show weighN l d = some ((firstN fK1 (mulN (drawN d) s) l n).getD (lastN fK1 l n)) by rw [unhide WN, if_neg hs0, unhide TK, if_neg h1])
        obtain ⟨d2, x, hdd, hmul, hlt⟩ := unhide DR h1
        have FX := hide (fun W hb => unhide FC W hb x (mulN (drawN d) s) hlt)
        rw [decide_eq_false h1] at hge
        clear h1 hs0 hlt
        generalize mulN (drawN d) s = y at *
        rcases hdd with ⟨hz, rfl⟩ | ⟨hz, rfl⟩
        · cases hf : firstN fK1 y l n with
          | some i =>
            rw [hf] at FX E
            unfold firstV at FX
            go_enter Tryz.func25, Tryz.ntmps25
            go_wp2_with (first
                | (go_at_call 46
                   refine (unhide IC _).mono ?_
                   rintro e W1 ⟨rfl, rfl⟩)
                | (go_at_call 45
                   refine (unhide SC1).mono ?_
                   rintro e W1 ⟨rfl, b1⟩
                   have B1 := hide b1
                   clear b1)
                | (go_at_call 48
                   refine (unhide FX _ (unhide B1)).mono ?_
                   rintro e W4 ⟨rfl, b4⟩
                   have B4 := hide ((unhide B1).trans (b4.mono (unhide B1).size))
                   clear b4))
            go_ret2
            exact ⟨by rw [unhide E]; rfl, unhide B4⟩
          | none =>
            rw [hf] at FX E
            unfold firstV at FX
            go_enter Tryz.func25, Tryz.ntmps25
            go_wp2_with (first
                | (go_at_call 46
                   refine (unhide IC _).mono ?_
                   rintro e W1 ⟨rfl, rfl⟩)
                | (go_at_call 45
                   refine (unhide SC1).mono ?_
                   rintro e W1 ⟨rfl, b1⟩
                   have B1 := hide b1
                   clear b1)
                | (go_at_call 48
                   refine (unhide FX _ (unhide B1)).mono ?_
                   rintro e W4 ⟨rfl, b4⟩
                   have B4 := hide ((unhide B1).trans (b4.mono (unhide B1).size))
                   clear b4)
                | (go_at_call 47
                   refine (unhide LC _ (unhide B4) (by assumption)).mono ?_
                   rintro e W5 ⟨rfl, b5⟩
                   have B5 := hide ((unhide B4).trans (b5.mono (unhide B4).size))
                   clear b5))
            go_ret2
            exact ⟨by rw [unhide E]; rfl, unhide B5⟩
        · cases hf : firstN fK1 y l n with
          | some i =>
            rw [hf] at FX E
            unfold firstV at FX
            go_enter Tryz.func25, Tryz.ntmps25
            go_wp2_with (first
                | (go_at_call 46
                   refine (unhide IC _).mono ?_
                   rintro e W1 ⟨rfl, rfl⟩)
                | (go_at_call 45
                   refine (unhide SC1).mono ?_
                   rintro e W1 ⟨rfl, b1⟩
                   have B1 := hide b1
                   clear b1)
                | (go_at_call 48
                   refine (unhide FX _ (unhide B1)).mono ?_
                   rintro e W4 ⟨rfl, b4⟩
                   have B4 := hide ((unhide B1).trans (b4.mono (unhide B1).size))
                   clear b4))
            go_ret2
            exact ⟨by rw [unhide E]; rfl, unhide B4⟩
          | none =>
            rw [hf] at FX E
            unfold firstV at FX
            go_enter Tryz.func25, Tryz.ntmps25
            go_wp2_with (first
                | (go_at_call 46
                   refine (unhide IC _).mono ?_
                   rintro e W1 ⟨rfl, rfl⟩)
                | (go_at_call 45
                   refine (unhide SC1).mono ?_
                   rintro e W1 ⟨rfl, b1⟩
                   have B1 := hide b1
                   clear b1)
                | (go_at_call 48
                   refine (unhide FX _ (unhide B1)).mono ?_
                   rintro e W4 ⟨rfl, b4⟩
                   have B4 := hide ((unhide B1).trans (b4.mono (unhide B1).size))
                   clear b4)
                | (go_at_call 47
                   refine (unhide LC _ (unhide B4) (by assumption)).mono ?_
                   rintro e W5 ⟨rfl, b5⟩
                   have B5 := hide ((unhide B4).trans (b5.mono (unhide B4).size))
                   clear b5))
            go_ret2
            exact ⟨by rw [unhide E]; rfl, unhide B5⟩
end
end Go.Proofs.YtcmiappiocfbiaaGreatDoor
end
/- Plane: which targets are taken (plain mathematics). -/
section
namespace Go.Proofs.YtcmiappiocfbiaaGreatDoor

theorem mul_one {x : Nat} (hx : x < fI) : mulN x fK1 = x := by
  unfold mulN
  rw [val_K1]
  have h := near_pw 1074 (val x) 1074
  exact h.trans (near_val x hx)
theorem addN_left {s y : Nat} (hs : s ≤ fI) (hy : y ≤ fI) : s ≤ addN s y := by
  unfold addN
  split
  · exact hs
  · rename_i h
    have h1 : near 1074 (val s) ≤ near 1074 (val s + val y) := near_mono _ (Nat.le_add_right _ _)
    rw [near_val s (by omega)] at h1
    exact h1
theorem addN_right {s y : Nat} (_hs : s ≤ fI) (hy : y ≤ fI) : y ≤ addN s y := by
  unfold addN
  split
  · exact hy
  · rename_i h
    have h1 : near 1074 (val y) ≤ near 1074 (val s + val y) := near_mono _ (Nat.le_add_left _ _)
    rw [near_val y (by omega)] at h1
    exact h1
/-- Each weight is at most the sum. -/
theorem wt_le_sum (k : Nat) : ∀ (l : List Tg) (t : Tg), t ∈ l → wt k t.2 ≤ sumN k l := by
  intro l
  induction hn : l.length generalizing l with
  | zero => intro t ht; have : l = [] := List.eq_nil_of_length_eq_zero hn
            subst this; simp at ht
  | succ n ih =>
    rcases List.eq_nil_or_concat l with rfl | ⟨l', u, rfl⟩
    · simp at hn
    · rw [List.concat_eq_append] at hn ⊢
      rw [List.length_append, List.length_singleton] at hn
      intro t ht
      rw [sumN_snoc]
      rcases List.mem_append.1 ht with h1 | h1
      · exact Nat.le_trans (ih l' (by omega) t h1) (addN_left (sumN_le _ _) (wt_le _ _))
      · obtain rfl : t = u := by simpa using h1
        exact addN_right (sumN_le _ _) (wt_le _ _)
end Go.Proofs.YtcmiappiocfbiaaGreatDoor
end
