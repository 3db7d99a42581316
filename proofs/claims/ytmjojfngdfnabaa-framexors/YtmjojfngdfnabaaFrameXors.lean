/- Proved: the sum of the xor of three rows of one length is the xor of their sums; for all three rows of bytes; no condition. -/
import Derived.Test.YtmjojfngdfnabaaArg
import Derived.Deep.RegionHeld3
import Derived.Test.YtmjojfngdfnabaaAid8
namespace Go.Proofs.Ytmjojfngdfnabaa.frameXors
open Go.ChangeShapes Go.WideShapes Go.ChangeAt Go.RowKit
set_option linter.unusedVariables false

theorem own : ownKnob Try.prog.godebug = none := by kernel_rfl
theorem laidOut : laidOutB Try.prog = true := by kernel_rfl

theorem min3 (x y z : Nat) : ∃ N : Nat, N ≤ x ∧ N ≤ y ∧ N ≤ z ∧ N = min (min x y) z ∧ ∀ (ts : Array TypeId) (t : TypeId) (u : World), (Builtin.min_ ts t #[.int .i64 (x : Int), .int .i64 (y : Int), .int .i64 (z : Int)]).run Try.prog u = .ok (.int .i64 (N : Int)) u := by
  refine ⟨min (min x y) z, by omega, by omega, by omega, rfl, fun ts t u => ?_⟩
  rw [run_min_int3]
  have e : ∀ a b : Nat, (if (b : Int) < (a : Int) then (b : Int) else (a : Int)) = ((min a b : Nat) : Int) := by
    intro a b
    by_cases h : (b : Int) < (a : Int)
    · rw [if_pos h, Nat.min_eq_right (by omega)]
    · rw [if_neg h, Nat.min_eq_left (by omega)]
  rw [e x y, e (min x y) z]
theorem block_ne {w : World} {b off : Nat} {l : List Nat} (hb : BytesAt w (some ⟨b, off, none⟩) l) (k : Nat) (hk : k < l.length) : ¬ b = w.heap.size := by
  obtain ⟨b', off', h1, h2⟩ := hb.cell k hk
  simp only [Option.some.injEq, Addr.mk.injEq, and_true] at h1
  have := World.block_lt_of_cell? _ _ h2
  simp only at this
  omega
/-- The xor of three rows, as far as the shortest one goes. -/
def xor3L (a b c : List Nat) : List Nat := List.zipWith (· ^^^ ·) (List.zipWith (· ^^^ ·) a b) c

theorem xor3_length (a b c : List Nat) : (xor3L a b c).length = min (min a.length b.length) c.length := by simp [xor3L]
theorem xor3_at (a b c : List Nat) (k : Nat) (ha : k < a.length) (hb : k < b.length) (hc : k < c.length) : (xor3L a b c).getD k 0 = a.getD k 0 ^^^ b.getD k 0 ^^^ c.getD k 0 := by
  simp [xor3L, List.getD_eq_getElem?_getD, List.getElem?_zipWith, List.getElem?_eq_getElem ha, List.getElem?_eq_getElem hb, List.getElem?_eq_getElem hc]

theorem xor_lt8 {a b : Nat} (ha : a < 256) (hb : b < 256) : a ^^^ b < 256 := Nat.xor_lt_two_pow (n := 8) ha hb
theorem xor8 (a b c : Nat) (ha : a < 256) (hb : b < 256) (hc : c < 256) : bits .xor .u8 (bits .xor .u8 (a : Int) (b : Int)) (c : Int) = ((a ^^^ b ^^^ c : Nat) : Int) := by
  rw [u8_xor_nat a b ha hb, u8_xor_nat _ c (xor_lt8 ha hb) hc]
theorem mem_set8 {l : List Nat} {j y : Nat} (h : ∀ c ∈ l, c < 256) (hy : y < 256) : ∀ c ∈ l.set j y, c < 256 := by
  intro c hc
  rcases List.mem_or_eq_of_mem_set hc with h1 | h1
  · exact h c h1
  · omega
theorem heap_set_row {w : World} {g : Nat} {X : List Nat} (h : w.heap[g]? = some (.cells (X.map byteV).toArray 5 (0, 0))) (k y : Nat) :
    (w.setCell ⟨g, k, none⟩ (.int .u8 (y : Int))).drew.heap[g]? = some (.cells ((X.set k y).map byteV).toArray 5 (0, 0)) := by
  have h1 := heap_setCell_same w g k _ 5 (.int .u8 (y : Int)) h
  have e : ((X.map byteV).toArray.setIfInBounds k (.int .u8 (y : Int))) = ((X.set k y).map byteV).toArray := by
    rw [List.map_set, List.setIfInBounds_toArray]; rfl
  rw [e] at h1
  exact h1
theorem sum_xor3 (a b c : List Nat) (N : Nat) (hN : N = min (min a.length b.length) c.length) :
    (∀ x ∈ a, x < 256) → (∀ x ∈ b, x < 256) → (∀ x ∈ c, x < 256) → Crc.ext 0 (xor3L a b c) = Crc.ext 0 (a.take N) ^^^ Crc.ext 0 (b.take N) ^^^ Crc.ext 0 (c.take N) := by
  intro ha hb hc
  have e : xor3L a b c = List.zipWith (· ^^^ ·) (List.zipWith (· ^^^ ·) (a.take N) (b.take N)) (c.take N) := by
    have h1 : xor3L a b c = (xor3L a b c).take N := (List.take_of_length_le (by rw [xor3_length, ← hN]; exact Nat.le_refl _)).symm
    rw [h1, xor3L, List.take_zipWith, List.take_zipWith]
  have h0 := Crc.reg_xor3 (a.take N) (b.take N) (c.take N) (Crc.not32 0) (Crc.not32 0) (Crc.not32 0) (by simp only [List.length_take]; omega) (by simp only [List.length_take]; omega)
  have hf : Crc.not32 0 ^^^ Crc.not32 0 ^^^ Crc.not32 0 = Crc.not32 0 := by rw [Nat.xor_self, Nat.zero_xor]
  rw [hf] at h0
  have la := Crc.reg_lt (a.take N) (Crc.not32_lt 0) (fun x hx => ha x (List.mem_of_mem_take hx))
  have lb := Crc.reg_lt (b.take N) (Crc.not32_lt 0) (fun x hx => hb x (List.mem_of_mem_take hx))
  have lc := Crc.reg_lt (c.take N) (Crc.not32_lt 0) (fun x hx => hc x (List.mem_of_mem_take hx))
  rw [e]
  unfold Crc.ext
  rw [h0]
  generalize Crc.reg (Crc.not32 0) (a.take N) = x at *
  generalize Crc.reg (Crc.not32 0) (b.take N) = y at *
  generalize Crc.reg (Crc.not32 0) (c.take N) = z at *
  rw [Crc.not32_xor (Crc.xor_lt (Crc.xor_lt la lb) lc), Crc.not32_xor la, Crc.not32_xor lb, Crc.not32_xor lc]
  have := Crc.xor3 x y z 4294967295 4294967295 4294967295
  rw [Nat.xor_self, Nat.zero_xor] at this
  exact this

set_option maxHeartbeats 1000000 in
theorem walk (a0 : Option Addr) (c0 : Nat) (l0 : List Nat) (a1 : Option Addr) (c1 : Nat) (l1 : List Nat) (a2 : Option Addr) (c2 : Nat) (l2 : List Nat) (w : World) (hc0 : l0.length ≤ c0) (hm0 : c0 ≤ 140737488355328) (hb0 : BytesAt w a0 l0) (hz0 : a0 = none → c0 = 0)
    (hc1 : l1.length ≤ c1) (hm1 : c1 ≤ 140737488355328) (hb1 : BytesAt w a1 l1) (hz1 : a1 = none → c1 = 0) (hc2 : l2.length ≤ c2) (hm2 : c2 ≤ 140737488355328) (hb2 : BytesAt w a2 l2) (hz2 : a2 = none → c2 = 0) :
    Calls Try.prog 5 #[.slice a0 l0.length c0, .slice a1 l1.length c1, .slice a2 l2.length c2] w fun e w' => e = .returned (.bool true) ∧ Below w.heap.size w w' := by
  have HB0 := hide hb0
  have HB1 := hide hb1
  have HB2 := hide hb2
  clear hb0 hb1 hb2 hz0 hz1 hz2
  obtain ⟨N, hN0, hN1, hN2, hNeq, hmin⟩ := min3 l0.length l1.length l2.length
  have hmk := run_make8 N (by omega)
  have HNeq := hide hNeq
  have hN47 : N ≤ 140737488355328 := by omega
  clear hNeq
  go_enter Try.func5, Try.ntmps5
  go_wp2
  go_loopw [9] (fun i wr => ∃ (k : Nat) (X : List Nat), k ≤ N ∧ i = .int .i64 (k : Int) ∧ Hid (wr.heap[w.heap.size]? = some (.cells (X.map byteV).toArray 5 (0, 0))) ∧ Hid (X.length = N) ∧ Hid (Below w.heap.size w wr) ∧ Hid (∀ c ∈ X, c < 256) ∧ Hid (X.take k = (xor3L l0 l1 l2).take k)) (fun i _ => N - (intOf i).toNat)
  case atStart => exact ⟨0, zeros N, by omega, rfl, heap_new _ _, zeros_length _, (Below.refl _ _).alloc (Nat.le_refl _) _, by intro c hc; simp [zeros] at hc; omega, rfl⟩
  case round =>
    obtain ⟨k, X, hk, rfl, hX, hXl, hbw, hXlt, hXt⟩ := hrel
    by_cases hkN : k < N
    · obtain ⟨b0, o0, rfl, x0⟩ := ((unhide HB0).later (unhide hbw)).cell k (by omega)
      obtain ⟨b1, o1, rfl, x1⟩ := ((unhide HB1).later (unhide hbw)).cell k (by omega)
      obtain ⟨b2, o2, rfl, x2⟩ := ((unhide HB2).later (unhide hbw)).cell k (by omega)
      have e0 := getD_lt (unhide HB0).lt k
      have e1 := getD_lt (unhide HB1).lt k
      have e2 := getD_lt (unhide HB2).lt k
      have hne0 : w.heap.size ≠ b0 := fun h => block_ne (unhide HB0) k (by omega) h.symm
      have hne1 : w.heap.size ≠ b1 := fun h => block_ne (unhide HB1) k (by omega) h.symm
      have hne2 : w.heap.size ≠ b2 := fun h => block_ne (unhide HB2) k (by omega) h.symm
      have hcell : ∃ v, wr.cell? ⟨w.heap.size, k, none⟩ = some v := by
        obtain ⟨b, off, h1, h2⟩ := (bytesAt_block (unhide hX) (unhide hXlt)).cell k (by rw [unhide hXl]; exact hkN)
        cases h1
        rw [Nat.zero_add] at h2
        exact ⟨_, h2⟩
      obtain ⟨old, hold⟩ := hcell
      have hfz : wr.frozen? ⟨w.heap.size, k, none⟩ = false := by simp [World.frozen?, unhide hX]
      have HX3 := hide (xor3_at l0 l1 l2 k (by omega) (by omega) (by omega))
      generalize l0.getD k 0 = y0 at *
      generalize l1.getD k 0 = y1 at *
      generalize l2.getD k 0 = y2 at *
      have k0 : (0 : Int) ≤ (k : Int) := by omega
      have k1 : (k : Int) < (N : Int) := by omega
      have k2 : (k : Int) < (l0.length : Int) := by omega
      have k3 : (k : Int) < (l1.length : Int) := by omega
      have k4 : (k : Int) < (l2.length : Int) := by omega
      go_wp2
      go_region_held3 (fun w' => w'.cell? ⟨b0, o0 + k, none⟩ = some (.int .u8 (y0 : Int)) ∧ w'.cell? ⟨b1, o1 + k, none⟩ = some (.int .u8 (y1 : Int)) ∧ w'.cell? ⟨b2, o2 + k, none⟩ = some (.int .u8 (y2 : Int))) (go_keep) (fail)
      rw [xor8 y0 y1 y2 e0 e1 e2]
      have hy : y0 ^^^ y1 ^^^ y2 < 256 := xor_lt8 (xor_lt8 e0 e1) e2
      generalize hyy : y0 ^^^ y1 ^^^ y2 = y at *
      have hX2 : (wr.setCell ⟨w.heap.size, k, none⟩ (.int .u8 (y : Int))).drew.heap[w.heap.size]? = some (.cells ((X.set k y).map byteV).toArray 5 (0, 0)) := heap_set_row (unhide hX) k y
      have hb2 : Below w.heap.size w (wr.setCell ⟨w.heap.size, k, none⟩ (.int .u8 (y : Int))).drew := ((unhide hbw).setCell (p := ⟨w.heap.size, k, none⟩) (Nat.le_refl _) _).drew
      have HX2 := hide hX2
      have Hb2 := hide hb2
      have hlt2 := hide (mem_set8 (unhide hXlt) hy : ∀ c ∈ X.set k y, c < 256)
      have ht2 := hide (show (X.set k y).take (k + 1) = (xor3L l0 l1 l2).take (k + 1) by
        rw [take_snoc_nat _ k (by rw [List.length_set, unhide hXl]; exact hkN), take_snoc_nat (xor3L l0 l1 l2) k (by rw [xor3_length, ← unhide HNeq]; exact hkN), List.take_set_of_le (Nat.le_refl k), unhide hXt]
        rw [unhide HX3, List.getD_eq_getElem?_getD, List.getElem?_set, if_pos rfl, if_pos (by rw [unhide hXl]; exact hkN)]
        rfl)
      clear hX2 hb2 hyy hold hfz x0 x1 x2 e0 e1 e2
      generalize (wr.setCell ⟨w.heap.size, k, none⟩ (.int .u8 (y : Int))).drew = wn at *
      go_wp2
      exact ⟨⟨k + 1, X.set k y, by omega, by go_num, unhide HX2, by rw [List.length_set]; exact unhide hXl, unhide Hb2, unhide hlt2, unhide ht2⟩, by simp [intOf]; omega⟩
    · have hkN' : k = N := by omega
      have hXX : X = xor3L l0 l1 l2 := by
        have h1 := unhide hXt
        rw [hkN', List.take_of_length_le (by rw [unhide hXl]; exact Nat.le_refl _), List.take_of_length_le (by rw [xor3_length, ← unhide HNeq]; exact Nat.le_refl _)] at h1
        exact h1
      have BX := hide (bytesAt_block (unhide hX) (unhide hXlt))
      have C0 := hide ((unhide HB0).later (unhide hbw))
      have C1 := hide ((unhide HB1).later (unhide hbw))
      have C2 := hide ((unhide HB2).later (unhide hbw))
      have HXX := hide hXX
      clear hkN' hXX hX hXt hmk hmin
      have hs0 := run_slice_h8 a0 l0.length c0 N (by omega)
      have hs1 := run_slice_h8 a1 l1.length c1 N (by omega)
      have hs2 := run_slice_h8 a2 l2.length c2 N (by omega)
      have D0 := hide ((unhide C0).head c0 N hc0)
      have D1 := hide ((unhide C1).head c1 N hc1)
      have D2 := hide ((unhide C2).head c2 N hc2)
      generalize slp a0 0 c0 = p0 at *
      generalize slp a1 0 c1 = p1 at *
      generalize slp a2 0 c2 = p2 at *
      have T0 := hide (show (l0.take N).length = N by rw [List.length_take]; omega)
      have T1 := hide (show (l1.take N).length = N by rw [List.length_take]; omega)
      have T2 := hide (show (l2.take N).length = N by rw [List.length_take]; omega)
      have M0 := hide (show (l0.take N).length ≤ maxLen by rw [unhide T0]; simp only [maxLen]; omega)
      have M1 := hide (show (l1.take N).length ≤ maxLen by rw [unhide T1]; simp only [maxLen]; omega)
      have M2 := hide (show (l2.take N).length ≤ maxLen by rw [unhide T2]; simp only [maxLen]; omega)
      have MX := hide (show X.length ≤ maxLen by rw [unhide hXl]; simp only [maxLen]; omega)
      have hfin := sum_xor3 l0 l1 l2 N (unhide HNeq) (unhide HB0).lt (unhide HB1).lt (unhide HB2).lt
      rw [← unhide HXX] at hfin
      have heq : (((Crc.ext 0 X : Nat) : Int) == bits .xor .u32 (bits .xor .u32 ((Crc.ext 0 (l0.take N) : Nat) : Int) ((Crc.ext 0 (l1.take N) : Nat) : Int)) ((Crc.ext 0 (l2.take N) : Nat) : Int)) = true := by
        rw [xor_u32 _ _ (Crc.ext_lt _ _) (Crc.ext_lt _ _), xor_u32 _ _ (Crc.xor_lt (Crc.ext_lt _ _) (Crc.ext_lt _ _)) (Crc.ext_lt _ _), hfin]
        simp
      clear hfin C0 C1 C2
      go_wp2
      go_region_held3 (fun w' => True) (trivial) (first
        | (go_at_call 9; refine (live_calls _).mono ?_; rintro e W1 ⟨rfl, hb1⟩)
        | (go_at_call_of 10 (Value.slice (some ⟨w.heap.size, 0, none⟩) N N); refine (sum_calls' _ N N X _ (unhide hXl) (unhide MX) (by exact ((unhide BX).drew).later hb1)).mono ?_; rintro e W2 ⟨rfl, rfl⟩)
        | (go_at_call_of 10 (Value.slice p0 N c0); refine (sum_calls' _ N c0 (l0.take N) _ (unhide T0) (unhide M0) (by exact ((unhide D0).drew).later hb1)).mono ?_; rintro e W2 ⟨rfl, rfl⟩)
        | (go_at_call_of 10 (Value.slice p1 N c1); refine (sum_calls' _ N c1 (l1.take N) _ (unhide T1) (unhide M1) (by exact ((unhide D1).drew).later hb1)).mono ?_; rintro e W2 ⟨rfl, rfl⟩)
        | (go_at_call_of 10 (Value.slice p2 N c2); refine (sum_calls' _ N c2 (l2.take N) _ (unhide T2) (unhide M2) (by exact ((unhide D2).drew).later hb1)).mono ?_; rintro e W2 ⟨rfl, rfl⟩))
      go_wp2
      go_ret
      exact ⟨rfl, (unhide hbw).drew.trans (hb1.mono (unhide hbw).size)⟩

set_option maxRecDepth 100000 in
theorem lifted (os : Os) (started : os.Started) (H : Type) (enc : TypeId × Value → H) :
    ReturnsInHanded {} Try.checked os 5 .any (Rows.frameXorsSpec.pre6 enc Try.prog Try.f5 Rows.frameXorsRow.domain false) (Rows.frameXorsSpec.post enc Try.prog Try.f5 false true false false) := by
  refine returnsInHanded_of_change_sized (C := Try.checked) own started (by kernel_rfl) Try.func5
    (ChangeSpec.witness6 (enc := enc) (C := Try.checked) false ⟨#[], #[.slice none 0 0, .slice none 0 0, .slice none 0 0], []⟩ 8 (by kernel_rfl) (by kernel_rfl) (by kernel_rfl) (by kernel_rfl)) ?_
  intro W base args ds gs before hval0 hW hcnd hsz _
  have hval : ∀ (j : Nat) t v, Try.f5.params[j]? = some t → args[j]? = some v → Value.okWide Try.prog W .any base t v := hval0
  have hW' := hW
  obtain ⟨p, q, hA0, hV, rfl, hfz, hnd⟩ := hW
  have hA : DataW.TrodAll enc Try.prog W 0 (fun _ => true) true Try.f5.params.toList args.toList ds p := hA0
  rw [Try.params5] at hA hval
  obtain ⟨v0, vs0, d0, ds0, p0, q0, hargs, rfl, rfl, h0, r0⟩ := trodAll_cons hA
  obtain ⟨v1, vs1, d1, ds1, p1, q1, rfl, rfl, rfl, h1, r1⟩ := trodAll_cons r0
  obtain ⟨v2, vs2, d2, ds2, p2, q2, rfl, rfl, rfl, h2, r2⟩ := trodAll_cons r1
  obtain ⟨rfl, rfl, rfl⟩ := trodAll_nil r2
  obtain rfl : args = #[v0, v1, v2] := by cases args; simp_all
  obtain ⟨rfl, rfl⟩ := trodVars_none hV
  obtain ⟨a0, len0, c0, rfl⟩ := okWide_slice Try.underlying23 (hval 0 23 v0 rfl rfl)
  have k0 := h0
  have lt0 : ∀ x ∈ p0, x.block < W.heap.size := by obtain ⟨m, hm⟩ := k0; exact DataW.trod_lt m _ _ _ hm
  obtain ⟨l0, rfl, hc0, hx0, hb0, hz0, hr0⟩ := row8 h0
  obtain ⟨a1, len1, c1, rfl⟩ := okWide_slice Try.underlying23 (hval 1 23 v1 rfl rfl)
  have k1 := h1
  have lt1 : ∀ x ∈ p1, x.block < W.heap.size := by obtain ⟨m, hm⟩ := k1; exact DataW.trod_lt m _ _ _ hm
  obtain ⟨l1, rfl, hc1, hx1, hb1, hz1, hr1⟩ := row8 h1
  obtain ⟨a2, len2, c2, rfl⟩ := okWide_slice Try.underlying23 (hval 2 23 v2 rfl rfl)
  have k2 := h2
  have lt2 : ∀ x ∈ p2, x.block < W.heap.size := by obtain ⟨m, hm⟩ := k2; exact DataW.trod_lt m _ _ _ hm
  obtain ⟨l2, rfl, hc2, hx2, hb2, hz2, hr2⟩ := row8 h2
  clear hA0 hval0
  have hm0 : c0 ≤ 140737488355328 := reach8 hsz (j := 0) (d := d0) rfl rfl hr0
  have hm1 : c1 ≤ 140737488355328 := reach8 hsz (j := 1) (d := d1) rfl rfl hr1
  have hm2 : c2 ≤ 140737488355328 := reach8 hsz (j := 2) (d := d2) rfl rfl hr2
  refine (walk a0 c0 l0 a1 c1 l1 a2 c2 l2 W hc0 hm0 hb0 hz0 hc1 hm1 hb1 hz1 hc2 hm2 hb2 hz2).mono fun e W' ⟨he, bel⟩ => ?_
  subst he
  exact ⟨_, rfl, _, _, _, [], _, [], hW', trodAll_mk1 (shut_bool Try.underlying4 _), (trodAll_cons_mk (Below.trod laidOut (by kernel_rfl) (of_decide_eq_true (by kernel_rfl)) k0 bel lt0) (trodAll_cons_mk (Below.trod laidOut (by kernel_rfl) (of_decide_eq_true (by kernel_rfl)) k1 bel lt1) (trodAll_cons_mk (Below.trod laidOut (by kernel_rfl) (of_decide_eq_true (by kernel_rfl)) k2 bel lt2) trodAll_mk0))), rfl, bel.frame _, fun h => by cases h⟩

theorem proved : Rows.FrameXorsSaid :=
  OpenClaim.holds_of_wide 5 Try.f5 rfl rfl rfl rfl rfl rfl rfl ⟨rfl, rfl, rfl, rfl, rfl⟩ rfl rfl rfl rfl rfl (by kernel_rfl) Try.func5 (by kernel_rfl)
    (of_decide_eq_true (by kernel_rfl)) (by unfold Func.isWrapper; first | (rw [if_pos (by decide +kernel)]; kernel_rfl) | (rw [if_neg (by decide +kernel)]; exact ⟨rfl, rfl⟩))
    (fun os started H enc _ => lifted os started H enc)
end Go.Proofs.Ytmjojfngdfnabaa.frameXors
namespace Go.Proofs.Ytmjojfngdfnabaa
theorem frameXors_holds : Rows.FrameXorsSaid := frameXors.proved
#print axioms frameXors_holds
end Go.Proofs.Ytmjojfngdfnabaa
