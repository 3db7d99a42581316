/- Plane: a target's weight, the weights' sum, the first and the last target. -/
import Derived.Test.YtcmiappiocfbiaaGreatDoorBas0
import Derived.Test.YtcmiappiocfbiaaGreatDoorFlo2
namespace Go.Proofs.YtcmiappiocfbiaaGreatDoor
open Go.ChangeShapes Go.WideShapes Go.ChangeAt Go.RowKit

theorem run_addF {x y : Nat} (hx : x ≤ fI) (hy : y ≤ fI) (t : TypeId) (w : World) : (binOp .add t (.float .f64 x) (.float .f64 y)).run Tryz.prog w = .ok (.float .f64 (addN x y)) w := run_float_arith w .add t .f64 x y _ (add_is hx hy)
theorem run_mulF {x y : Nat} (hx : x < fI) (hy : y < fI) (t : TypeId) (w : World) : (binOp .mul t (.float .f64 x) (.float .f64 y)).run Tryz.prog w = .ok (.float .f64 (mulN x y)) w := run_float_arith w .mul t .f64 x y _ (mul_is hx hy)
theorem run_storeF (m : Mode) (a : Addr) (b : Nat) (w : World) : (store a (.float .f64 b) m).run Tryz.prog w = stored Tryz.prog w a (.float .f64 b) m := run_store Tryz.prog w a _ m rfl
theorem gt0_is (x : Nat) (hx : x < 18446744073709551616) : (FloatKind.f64.format.order x 0 == some Ordering.gt) = decide (0 < x ∧ x ≤ fI) := order_zero x hx
theorem lt_is {x y : Nat} (hx : x ≤ fI) (hy : y ≤ fI) : (FloatKind.f64.format.order x y == some Ordering.lt) = decide (x < y) := by
  rw [show FloatKind.f64.format.order x y = _ from order_is hx hy]
  by_cases h : x < y
  · rw [Nat.compare_eq_lt.2 h, decide_eq_true h]; rfl
  · rw [decide_eq_false h]
    rcases Nat.lt_or_ge y x with h1 | h1
    · rw [Nat.compare_eq_gt.2 h1]; rfl
    · rw [Nat.compare_eq_eq.2 (by omega)]; rfl
theorem gt_is {x y : Nat} (hx : x ≤ fI) (hy : y ≤ fI) : (FloatKind.f64.format.order x y == some Ordering.gt) = decide (y < x) := by
  rw [show FloatKind.f64.format.order x y = _ from order_is hx hy]
  by_cases h : y < x
  · rw [Nat.compare_eq_gt.2 h, decide_eq_true h]; rfl
  · rw [decide_eq_false h]
    rcases Nat.lt_or_ge x y with h1 | h1
    · rw [Nat.compare_eq_lt.2 h1]; rfl
    · rw [Nat.compare_eq_eq.2 (by omega)]; rfl
/-- A target: its address, its weight's bits. -/
abbrev Tg := ByteArray × Nat
structure TgsAt (w : World) (a : Option Addr) (l : List Tg) : Prop where
  lt : ∀ t ∈ l, t.2 < 18446744073709551616
  cell : ∀ i (hi : i < l.length), ∃ b off, a = some ⟨b, off, none⟩ ∧ w.cell? ⟨b, off + i * 2, none⟩ = some (.string l[i].1) ∧ w.cell? ⟨b, off + i * 2 + 1, none⟩ = some (.float .f64 l[i].2)
theorem TgsAt.later {w w' : World} {a : Option Addr} {l : List Tg} (h : TgsAt w a l) (hb : Below w.heap.size w w') : TgsAt w' a l :=
  ⟨h.lt, fun i hi => by obtain ⟨b, off, e, h1, h2⟩ := h.cell i hi; exact ⟨b, off, e, cell_later hb h1, cell_later hb h2⟩⟩
/-- A weight as it counts, times k. -/
def wt (k x : Nat) : Nat := if 0 < x ∧ x < fI then mulN x k else 0
theorem wt_le (k x : Nat) : wt k x ≤ fI := by
  unfold wt
  split
  · exact mulN_le _ _
  · omega
def sumN (k : Nat) (l : List Tg) : Nat := l.foldl (fun s t => addN s (wt k t.2)) 0
theorem sumN_snoc (k : Nat) (l : List Tg) (t : Tg) : sumN k (l ++ [t]) = addN (sumN k l) (wt k t.2) := by simp [sumN]
theorem sumN_take (k : Nat) (l : List Tg) (i : Nat) (hi : i < l.length) : sumN k (l.take (i + 1)) = addN (sumN k (l.take i)) (wt k l[i].2) := by
  rw [List.take_succ_eq_append_getElem hi, sumN_snoc]
theorem sumN_le (k : Nat) (l : List Tg) : sumN k l ≤ fI := by
  rcases List.eq_nil_or_concat l with rfl | ⟨l', t, rfl⟩
  · simp [sumN]
  · rw [List.concat_eq_append, sumN_snoc]; exact addN_le _ _
theorem isInf_calls (x : Nat) (w : World) (hx : x ≤ fI) : Calls Tryz.prog 46 #[.float .f64 x, .int .i64 1] w fun e w' => e = .returned (.bool (decide (x = fI))) ∧ w' = w := by
  have h1 : (FloatKind.f64.format.order x 9218868437227405311 == some Ordering.gt) = decide (x = fI) := by
    rw [gt_is hx (by decide)]
    simp only [fI] at hx ⊢
    exact decide_eq_decide.2 (by omega)
  clear hx
  go_enter Tryz.func46, Tryz.ntmps46
  go_wp2
  go_ret
  exact ⟨rfl, rfl⟩
set_option maxHeartbeats 4000000 in
theorem weight_calls (k x : Nat) (s : ByteArray) (w : World) (hk : k < fI) (hx : x < 18446744073709551616) :
    Calls Tryz.prog 57 #[.float .f64 k, .agg #[.string s, .float .f64 x]] w fun e w' => e = .returned (.float .f64 (wt k x)) ∧ Below w.heap.size w w' := by
  have B1 := hide (show Below w.heap.size w (w.alloc (.cells #[.string s, .float .f64 x] 41)) from (Below.refl _ _).alloc (Nat.le_refl _) _)
  by_cases h0 : 0 < x ∧ x ≤ fI
  · have g0 : (FloatKind.f64.format.order x 0 == some Ordering.gt) = true := by rw [gt0_is x hx]; exact decide_eq_true h0
    by_cases h1 : x = fI
    · have W := hide (show wt k x = 0 by unfold wt; rw [if_neg (by omega)])
      have ci := hide (isInf_calls x (w.alloc (.cells #[.string s, .float .f64 x] 41)) h0.2)
      rw [decide_eq_true h1] at ci
      clear h0 h1 hk hx
      go_enter Tryz.func57, Tryz.ntmps57
      go_wp2_with (go_at_call 46; refine (unhide ci).mono ?_; rintro e w' ⟨rfl, rfl⟩)
      go_ret
      exact ⟨by rw [unhide W]; rfl, unhide B1⟩
    · have W := hide (show wt k x = mulN x k by unfold wt; rw [if_pos (by omega)])
      have hm := run_mulF (x := x) (y := k) (by omega) hk
      have ci := hide (isInf_calls x (w.alloc (.cells #[.string s, .float .f64 x] 41)) h0.2)
      rw [decide_eq_false h1] at ci
      clear h0 h1 hk hx
      go_enter Tryz.func57, Tryz.ntmps57
      go_wp2_with (go_at_call 46; refine (unhide ci).mono ?_; rintro e w' ⟨rfl, rfl⟩)
      go_ret
      exact ⟨by rw [unhide W]; rfl, unhide B1⟩
  · have g0 : (FloatKind.f64.format.order x 0 == some Ordering.gt) = false := by rw [gt0_is x hx]; exact decide_eq_false h0
    have W := hide (show wt k x = 0 by unfold wt; rw [if_neg (by omega)])
    clear h0 hk hx
    go_enter Tryz.func57, Tryz.ntmps57
    go_wp2
    go_ret
    exact ⟨by rw [unhide W]; rfl, unhide B1⟩
section
variable {w : World} {a : Option Addr} {l : List Tg}
set_option maxRecDepth 20000 in
set_option maxHeartbeats 4000000 in
theorem sum_calls (k : Nat) (hk : k < fI) (h : TgsAt w a l) (n c : Nat) (hn : l.length = n) (hx : n ≤ maxLen) :
    Calls Tryz.prog 45 #[.float .f64 k, .slice a n c] w fun e w' => e = .returned (.float .f64 (sumN k l)) ∧ Below w.heap.size w w' := by
  have H := hide h
  have HN := hide hn
  simp only [maxLen] at hx
  clear h hn
  have hsf := run_storeF .plain
  go_enter Tryz.func45, Tryz.ntmps45
  go_wp2_with fail
  go_loopw [5, 10] (fun s i wr => ∃ j : Nat, j ≤ n ∧ i = .int .i64 (j : Int) ∧ s = .float .f64 (sumN k (l.take j)) ∧ Hid (Below w.heap.size w wr)) (fun _ i _ => n - (intOf i).toNat)
  case atStart => exact ⟨0, by omega, rfl, rfl, hide (Below.refl _ _)⟩
  case round =>
    obtain ⟨j, hj, rfl, rfl, B⟩ := hrel
    by_cases hjn : j < n
    · have y0 : (0 : Int) ≤ (j : Int) := by omega
      have y1 : (j : Int) < (n : Int) := by omega
      have hjl : j < l.length := by rw [unhide HN]; exact hjn
      obtain ⟨b, off, rfl, q0, q1⟩ := (unhide H).cell j hjl
      have p0 := cell_later (unhide B) q0
      have p1 := cell_later (unhide B) q1
      have ht := (unhide H).lt _ (List.getElem_mem hjl)
      have ST := hide (sumN_take k l j hjl)
      have ha := run_addF (sumN_le k (l.take j)) (wt_le k l[j].2)
      generalize l[j] = t at *
      obtain ⟨s, x⟩ := t
      simp only at p0 p1 ht ha ST
      have B1 := hide ((unhide B).alloc (unhide B).size (.cells #[.string s, .float .f64 x] 41))
      have WC := hide (weight_calls k x s (wr.alloc (.cells #[.string s, .float .f64 x] 41)) hk ht)
      generalize sumN k (l.take j) = sm at *
      generalize wt k x = y at *
      clear q0 q1
      go_wp2_with (go_at_call 57; refine (unhide WC).mono ?_; rintro e W1 ⟨rfl, b1⟩; have B2 := hide ((unhide B1).trans (b1.mono (unhide B1).size)); clear b1)
      exact ⟨⟨j + 1, by omega, by go_num, by rw [unhide ST], unhide B2⟩, by simp [intOf]; omega⟩
    · have hjj : ¬ (j : Int) < (n : Int) := by omega
      have e : l.take j = l := List.take_of_length_le (by rw [unhide HN]; omega)
      rw [e]
      clear e
      go_wp2
      go_ret
      exact ⟨rfl, unhide B⟩
/-- Whether a draw takes the target j. -/
def hitN (k x : Nat) (l : List Tg) (j : Nat) : Bool := decide (0 < wt k (l.getD j (⟨#[]⟩, 0)).2 ∧ x < sumN k (l.take (j + 1)))
/-- The first of the first j targets that a draw takes. -/
def firstN (k x : Nat) (l : List Tg) : Nat → Option Nat
  | 0 => none
  | j + 1 => match firstN k x l j with
    | some i => some i
    | none => if hitN k x l j = true then some j else none
theorem firstN_stays (k x : Nat) (l : List Tg) (j i : Nat) (h : firstN k x l j = some i) : ∀ n, j ≤ n → firstN k x l n = some i := by
  intro n hn
  induction n with
  | zero => have : j = 0 := by omega
            subst this; exact h
  | succ n ih =>
    by_cases he : j = n + 1
    · subst he; exact h
    · simp only [firstN, ih (by omega)]
/-- The last of the first j targets that counts (0, if there is none). -/
def lastN (k : Nat) (l : List Tg) : Nat → Nat
  | 0 => 0
  | j + 1 => if 0 < wt k (l.getD j (⟨#[]⟩, 0)).2 then j else lastN k l j
theorem getD_at (l : List Tg) (j : Nat) (hj : j < l.length) : l.getD j (⟨#[]⟩, 0) = l[j] := by
  rw [List.getD_eq_getElem?_getD, List.getElem?_eq_getElem hj]; rfl
def firstV : Option Nat → Value
  | some i => .tuple #[.int .i64 (i : Int), .bool true]
  | none => .tuple #[.int .i64 0, .bool false]
set_option maxRecDepth 20000 in
set_option maxHeartbeats 4000000 in
theorem first_calls (k : Nat) (hk : k < fI) (x x' : Nat) (hlt : ∀ y, y ≤ fI → (FloatKind.f64.format.order x y == some Ordering.lt) = decide (x' < y)) (h : TgsAt w a l) (n c : Nat) (hn : l.length = n) (hx : n ≤ maxLen) :
    Calls Tryz.prog 48 #[.float .f64 k, .slice a n c, .float .f64 x] w fun e w' => e = .returned (firstV (firstN k x' l n)) ∧ Below w.heap.size w w' := by
  have H := hide h
  have HN := hide hn
  have HL := hide hlt
  simp only [maxLen] at hx
  clear h hn hlt
  have hsf := run_storeF .plain
  go_enter Tryz.func48, Tryz.ntmps48
  go_wp2_with fail
  go_loopw [8, 14] (fun s i wr => ∃ j : Nat, j ≤ n ∧ i = .int .i64 (j : Int) ∧ s = .float .f64 (sumN k (l.take j)) ∧ Hid (firstN k x' l j = none) ∧ Hid (Below w.heap.size w wr)) (fun _ i _ => n - (intOf i).toNat)
  case atStart => exact ⟨0, by omega, rfl, rfl, hide rfl, hide (Below.refl _ _)⟩
  case round =>
    obtain ⟨j, hj, rfl, rfl, FN, B⟩ := hrel
    by_cases hjn : j < n
    · have y0 : (0 : Int) ≤ (j : Int) := by omega
      have y1 : (j : Int) < (n : Int) := by omega
      have hjl : j < l.length := by rw [unhide HN]; exact hjn
      obtain ⟨b, off, rfl, q0, q1⟩ := (unhide H).cell j hjl
      have p0 := cell_later (unhide B) q0
      have p1 := cell_later (unhide B) q1
      have ht := (unhide H).lt _ (List.getElem_mem hjl)
      have ST := hide (sumN_take k l j hjl)
      have ha := run_addF (sumN_le k (l.take j)) (wt_le k l[j].2)
      have hsl := addN_le (sumN k (l.take j)) (wt k l[j].2)
      have HH := hide (show hitN k x' l j = decide (0 < wt k l[j].2 ∧ x' < addN (sumN k (l.take j)) (wt k l[j].2)) by unfold hitN; rw [getD_at l j hjl, unhide ST])
      have wl := wt_le k l[j].2
      generalize l[j] = t at *
      obtain ⟨s, u⟩ := t
      simp only at p0 p1 ht ha ST HH hsl wl
      have B1 := hide ((unhide B).alloc (unhide B).size (.cells #[.string s, .float .f64 u] 41))
      have WC := hide (weight_calls k u s (wr.alloc (.cells #[.string s, .float .f64 u] 41)) hk ht)
      generalize sumN k (l.take j) = sm at *
      generalize wt k u = y at *
      have z1 : (FloatKind.f64.format.order y 0 == some Ordering.gt) = decide (0 < y) := by rw [gt0_is y (by simp only [fI] at wl; omega)]; exact decide_eq_decide.2 (by omega)
      have z2 : (FloatKind.f64.format.order x (addN sm y) == some Ordering.lt) = decide (x' < addN sm y) := unhide HL _ hsl
      generalize addN sm y = sn at *
      clear q0 q1 hsl wl ht hk
      by_cases c1 : 0 < y
      · rw [decide_eq_true c1] at z1
        by_cases c2 : x' < sn
        · rw [decide_eq_true c2] at z2
          have FF := hide (show firstN k x' l n = some j from firstN_stays k x' l (j + 1) j (by simp only [firstN, unhide FN]; rw [if_pos (by rw [unhide HH]; exact decide_eq_true ⟨c1, c2⟩)]) n (by omega))
          clear c1 c2
          go_wp2_with (go_at_call 57; refine (unhide WC).mono ?_; rintro e W1 ⟨rfl, b1⟩; have B2 := hide ((unhide B1).trans (b1.mono (unhide B1).size)); clear b1)
          go_ret2
          exact ⟨by rw [unhide FF]; rfl, unhide B2⟩
        · rw [decide_eq_false c2] at z2
          have FF := hide (show firstN k x' l (j + 1) = none by simp only [firstN, unhide FN]; rw [if_neg (by rw [unhide HH, decide_eq_false (fun q => c2 q.2)]; decide)])
          clear c1 c2
          go_wp2_with (go_at_call 57; refine (unhide WC).mono ?_; rintro e W1 ⟨rfl, b1⟩; have B2 := hide ((unhide B1).trans (b1.mono (unhide B1).size)); clear b1)
          exact ⟨⟨j + 1, by omega, by go_num, by rw [unhide ST], unhide FF, unhide B2⟩, by simp [intOf]; omega⟩
      · rw [decide_eq_false c1] at z1
        have FF := hide (show firstN k x' l (j + 1) = none by simp only [firstN, unhide FN]; rw [if_neg (by rw [unhide HH, decide_eq_false (fun q => c1 q.1)]; decide)])
        clear c1 z2
        go_wp2_with (go_at_call 57; refine (unhide WC).mono ?_; rintro e W1 ⟨rfl, b1⟩; have B2 := hide ((unhide B1).trans (b1.mono (unhide B1).size)); clear b1)
        exact ⟨⟨j + 1, by omega, by go_num, by rw [unhide ST], unhide FF, unhide B2⟩, by simp [intOf]; omega⟩
    · have hjj : ¬ (j : Int) < (n : Int) := by omega
      obtain rfl : j = n := by omega
      go_wp2
      go_ret2
      exact ⟨by rw [unhide FN]; rfl, unhide B⟩
set_option maxRecDepth 20000 in
set_option maxHeartbeats 4000000 in
theorem last_calls (k : Nat) (hk : k < fI) (h : TgsAt w a l) (n c : Nat) (hn : l.length = n) (hx : n ≤ maxLen) (h1 : 0 < n) :
    Calls Tryz.prog 47 #[.float .f64 k, .slice a n c] w fun e w' => e = .returned (.int .i64 (lastN k l n : Int)) ∧ Below w.heap.size w w' := by
  have H := hide h
  have HN := hide hn
  simp only [maxLen] at hx
  clear h hn
  have hsub : IntKind.i64.wrap ((n : Int) - 1) = ((n - 1 : Nat) : Int) := by rw [IntKind.wrap_i64]; omega
  go_enter Tryz.func47, Tryz.ntmps47
  go_wp2_with fail
  go_loopw [5] (fun i wr => ∃ j : Nat, j < n ∧ i = .int .i64 (j : Int) ∧ Hid (lastN k l n = lastN k l (j + 1)) ∧ Hid (Below w.heap.size w wr)) (fun i _ => (intOf i).toNat)
  case atStart => exact ⟨n - 1, by omega, by first | rfl | (congr 1; omega), hide (by rw [Nat.sub_add_cancel h1]), hide (Below.refl _ _)⟩
  case round =>
    obtain ⟨j, hj, rfl, LN, B⟩ := hrel
    by_cases hj0 : 0 < j
    · have y0 : (0 : Int) ≤ (j : Int) := by omega
      have y1 : (j : Int) < (n : Int) := by omega
      have y2 : (0 : Int) < (j : Int) := by omega
      have hjl : j < l.length := by rw [unhide HN]; exact hj
      obtain ⟨b, off, rfl, q0, q1⟩ := (unhide H).cell j hjl
      have p0 := cell_later (unhide B) q0
      have p1 := cell_later (unhide B) q1
      have ht := (unhide H).lt _ (List.getElem_mem hjl)
      have wl := wt_le k l[j].2
      have HL := hide (show lastN k l (j + 1) = if 0 < wt k l[j].2 then j else lastN k l j by simp only [lastN, getD_at l j hjl])
      generalize l[j] = t at *
      obtain ⟨s, u⟩ := t
      simp only at p0 p1 ht wl HL
      have WC := hide (weight_calls k u s wr hk ht)
      generalize wt k u = y at *
      have z1 : (FloatKind.f64.format.order y 0 == some Ordering.gt) = decide (0 < y) := by rw [gt0_is y (by simp only [fI] at wl; omega)]; exact decide_eq_decide.2 (by omega)
      clear q0 q1 wl ht
      by_cases c1 : 0 < y
      · rw [decide_eq_true c1] at z1
        rw [if_pos c1] at HL
        clear c1
        go_wp2_with (go_at_call 57; refine (unhide WC).mono ?_; rintro e W1 ⟨rfl, b1⟩; have B2 := hide ((unhide B).trans (b1.mono (unhide B).size)); clear b1)
        go_ret
        exact ⟨by rw [unhide LN, unhide HL]; rfl, unhide B2⟩
      · rw [decide_eq_false c1] at z1
        rw [if_neg c1] at HL
        clear c1
        have hs2 : IntKind.i64.wrap ((j : Int) - 1) = ((j - 1 : Nat) : Int) := by rw [IntKind.wrap_i64]; omega
        go_wp2_with (go_at_call 57; refine (unhide WC).mono ?_; rintro e W1 ⟨rfl, b1⟩; have B2 := hide ((unhide B).trans (b1.mono (unhide B).size)); clear b1)
        exact ⟨⟨j - 1, by omega, by first | rfl | (congr 1; omega), hide (by rw [Nat.sub_add_cancel hj0]; exact (unhide LN).trans (unhide HL)), unhide B2⟩, by simp [intOf]; omega⟩
    · obtain rfl : j = 0 := by omega
      have HL := hide (show lastN k l 1 = 0 by simp only [lastN]; split <;> rfl)
      go_wp2
      go_ret
      exact ⟨by rw [unhide LN, unhide HL]; rfl, unhide B⟩
end
end Go.Proofs.YtcmiappiocfbiaaGreatDoor
