/- Proved: one bit turned in the sum or in what a frame holds is told; for all bytes and every bit; no condition. -/
import Derived.Test.YtmjojfngdfnababArg
import Derived.Test.YtmjojfngdfnababTurn
namespace Go.Proofs.Ytmjojfngdfnabab.frameTurned
open Go.ChangeShapes Go.WideShapes Go.ChangeAt Go.RowKit
set_option linter.unusedVariables false

theorem own : ownKnob Try.prog.godebug = none := by kernel_rfl
theorem laidOut : laidOutB Try.prog = true := by kernel_rfl

theorem rem_nat (k : Int) (M : Nat) (h0 : 0 < M) (h1 : M ≤ 4611686018427387904) : ∃ N : Nat, wrap64 ((IntKind.u64.wrap k).tmod (M : Int)) = (N : Int) ∧ N < M := by
  have hw : 0 ≤ IntKind.u64.wrap k := wrap_u64_nonneg k
  obtain ⟨u, hu⟩ := Int.eq_ofNat_of_zero_le hw
  rw [hu]
  refine ⟨u % M, ?_, Nat.mod_lt _ h0⟩
  have e : ((u : Int).tmod (M : Int)) = ((u % M : Nat) : Int) := by rw [← Int.ofNat_tmod]
  have := Nat.mod_lt u h0
  rw [e]
  unfold wrap64
  omega

theorem turn_byte (x r : Nat) (hx : x < 256) (hr : r < 8) : ∃ y : Nat, bits .xor .u8 (x : Int) (2 ^ r % 256) = (y : Int) ∧ y < 256 ∧ y ≠ x := by
  have h1 : (2 : Nat) ^ r < 256 := by
    have : (2 : Nat) ^ r ≤ 2 ^ 7 := Nat.pow_le_pow_right (by omega) (by omega)
    omega
  have h2 : 0 < (2 : Nat) ^ r := Nat.pow_pos (by omega)
  have e : ((2 : Int) ^ r % 256) = ((2 ^ r : Nat) : Int) := by
    rw [Int.natCast_pow]
    have : ((2 ^ r : Nat) : Int) < 256 := by omega
    rw [Int.natCast_pow] at this
    have h3 : (0 : Int) ≤ ((2 : Nat) : Int) ^ r := by rw [← Int.natCast_pow]; omega
    exact Int.emod_eq_of_lt h3 this
  refine ⟨x ^^^ 2 ^ r, ?_, ?_, ?_⟩
  · rw [e, u8_xor_nat x _ hx h1]
  · exact Nat.xor_lt_two_pow (n := 8) hx h1
  · intro h
    have h4 : (x ^^^ 2 ^ r) = (x ^^^ 0) := by rw [Nat.xor_zero]; exact h
    have := Crc.xor_inj' h4
    omega
theorem bytes_set {w : World} {g : Nat} {l : List Nat} (h : w.heap[g]? = some (.cells (l.map byteV).toArray 5 (0, 0))) (hl : ∀ c ∈ l, c < 256) (j y : Nat) (hy : y < 256) (hj : j < l.length) :
    BytesAt (w.setCell ⟨g, j, none⟩ (.int .u8 (y : Int))) (some ⟨g, 0, none⟩) (l.set j y) := by
  have hb := bytesAt_block h hl
  refine ⟨mem_set hl hy, fun i hi => ⟨g, 0, rfl, ?_⟩⟩
  rw [List.length_set] at hi
  obtain ⟨b, off, e1, e2⟩ := hb.cell i hi
  cases e1
  by_cases hij : i = j
  · subst hij
    rw [Nat.zero_add] at e2 ⊢
    rw [World.cell?_setCell_same _ _ _ e2]
    rw [List.getD_eq_getElem?_getD, List.getElem?_set, if_pos rfl, if_pos hi]
    rfl
  · rw [World.cell?_setCell_other _ _ _ _ (by intro hh; simp only [Addr.mk.injEq] at hh; omega), e2]
    rw [List.getD_eq_getElem?_getD, List.getD_eq_getElem?_getD, List.getElem?_set, if_neg (by omega)]
/-- Next at a place where there is an error. -/
theorem next_err' (a : Option Addr) (n c : Nat) (l : List Nat) (k : Nat) (kk : Int) (w : World) (hkk : kk = (k : Int)) (hn : l.length = n) (hl : l.length ≤ maxLen) (hc : l.length ≤ c) (hk : k ≤ l.length) (h8 : ¬ l.length - k < 8) (hb : BytesAt w a l) (he : 0 < nextE l k) :
    Calls Try.prog 11 #[.slice a n c, .int .i64 kk] w fun e w' => e = .returned (.tuple #[.slice none 0 0, .int .i64 0, .int .i64 (nextE l k : Nat)]) ∧ Below w.heap.size w w' := by
  subst hn; subst hkk
  refine (next_calls a c l k w hl hc hk h8 hb).mono ?_
  rintro e w' ⟨hbw, ⟨_, rfl⟩ | ⟨h0, _⟩⟩
  · exact ⟨rfl, hbw⟩
  · omega

set_option maxHeartbeats 1000000 in
theorem walk (a0 : Option Addr) (c0 : Nat) (l0 : List Nat) (k : Int) (w : World) (hc0 : l0.length ≤ c0) (hm0 : c0 ≤ 140737488355328) (hb0 : BytesAt w a0 l0) (hz0 : a0 = none → c0 = 0)
    (hk : -9223372036854775808 ≤ k ∧ k ≤ 9223372036854775807) :
    Calls Try.prog 4 #[.slice a0 l0.length c0, .int .i64 k] w fun e w' => e = .returned (.bool true) ∧ Below w.heap.size w w' := by
  have HB := hide hb0
  have Hk := hide hk
  clear hb0 hz0 hk
  go_enter Try.func4, Try.ntmps4
  go_wp2_with fail
  by_cases hlong : 65536 < l0.length
  · refine (frame_long _ _ l0 _ (by simp only [maxLen]; omega) hlong).mono ?_
    rintro e W1 ⟨rfl, rfl⟩
    go_wp2_with fail
    refine (live_calls _).mono ?_
    rintro e W2 ⟨rfl, hb2⟩
    go_wp2
    go_ret
    exact ⟨rfl, hb2⟩
  · refine (frame_ok _ _ l0 _ (unhide HB) (by omega)).mono ?_
    rintro e W1 ⟨g, rfl, hb1, hg1, hcell⟩
    have HC := hide hcell
    have hl6 : l0.length ≤ 65536 := by omega
    clear hcell hlong hc0 hm0
    go_wp2_with fail
    obtain ⟨N, hN, hNl⟩ := rem_nat k (32 + 8 * l0.length) (by omega) (by omega)
    have eM : ((32 + 8 * l0.length : Nat) : Int) = 32 + 8 * (l0.length : Int) := by omega
    rw [eM] at hN
    rw [hN]
    clear hN eM
    obtain ⟨q, hq⟩ : ∃ q : Nat, (N : Int) / 8 = (q : Int) := ⟨N / 8, by omega⟩
    obtain ⟨r, hr⟩ : ∃ r : Nat, (N : Int) % 8 = (r : Int) := ⟨N % 8, by omega⟩
    have hq1 : 4 + q < 8 + l0.length := by omega
    have hr1 : r < 8 := by omega
    have hlf := frameB_length l0
    have hflt := frameB_lt (unhide HB).lt hl6
    have hx : W1.cell? ⟨g, 4 + q, none⟩ = some (.int .u8 (((frameB l0).getD (4 + q) 0 : Nat) : Int)) := by
      obtain ⟨b, off, e1, e2⟩ := (bytesAt_block (unhide HC) hflt).cell (4 + q) (by omega)
      cases e1
      rw [Nat.zero_add] at e2
      exact e2
    have hfz : W1.frozen? ⟨g, 4 + q, none⟩ = false := by simp [World.frozen?, unhide HC]
    have hx256 := getD_lt hflt (4 + q)
    generalize hxx : (frameB l0).getD (4 + q) 0 = x at *
    have qi : (4 : Int) + (q : Int) < 8 + (l0.length : Int) := by omega
    have qi0 : (0 : Int) ≤ 4 + (q : Int) := by omega
    have qn : ((4 : Int) + (q : Int)).toNat = 4 + q := by omega
    have HXX := hide hxx
    have hlt0 := hide hflt
    clear hxx hlf hflt
    go_region
    obtain ⟨y, hy, hylt, hyne⟩ := turn_byte x r hx256 hr1
    rw [hy]
    have hset := bytes_set (unhide HC) (unhide hlt0) (4 + q) y hylt (by rw [frameB_length]; omega)
    have HBS := hide (hset.drew)
    have HE5 := hide (turned_next l0 q y hl6 (unhide HB).lt hq1 hylt (by rw [unhide HXX]; exact hyne))
    have bS : Below w.heap.size w (W1.setCell ⟨g, 4 + q, none⟩ (.int .u8 (y : Int))).drew := (hb1.setCell (p := ⟨g, 4 + q, none⟩) hg1 _).drew
    have BS := hide bS
    clear bS hset hy hx hfz HC HXX hq hr qi qi0 qn
    generalize (W1.setCell ⟨g, 4 + q, none⟩ (.int .u8 (y : Int))).drew = W2 at *
    have hLen := hide (show ((frameB l0).set (4 + q) y).length = 8 + l0.length by rw [List.length_set, frameB_length])
    generalize (frameB l0).set (4 + q) y = F at *
    go_wp2_with fail
    refine (next_err' _ _ _ F 0 _ _ rfl (unhide hLen) (by rw [unhide hLen]; simp only [maxLen]; omega) (by rw [unhide hLen]; exact Nat.le_refl _) (by omega) (by rw [unhide hLen]; omega) (unhide HBS) (by rw [unhide HE5]; omega)).mono ?_
    rintro e W3 ⟨rfl, hb3⟩
    rw [unhide HE5]
    go_wp2_with fail
    refine (live_calls _).mono ?_
    rintro e W4 ⟨rfl, hb4⟩
    go_wp2
    go_ret
    exact ⟨rfl, (unhide BS).trans ((hb3.trans (hb4.mono hb3.size)).mono (unhide BS).size)⟩

set_option maxRecDepth 100000 in
theorem lifted (os : Os) (started : os.Started) (H : Type) (enc : TypeId × Value → H) :
    ReturnsInHanded {} Try.checked os 4 .any (Rows.frameTurnedSpec.pre6 enc Try.prog Try.f4 Rows.frameTurnedRow.domain false) (Rows.frameTurnedSpec.post enc Try.prog Try.f4 false true false false) := by
  refine returnsInHanded_of_change_sized (C := Try.checked) own started (by kernel_rfl) Try.func4
    (ChangeSpec.witness6 (enc := enc) (C := Try.checked) false ⟨#[], #[.slice none 0 0, .int .i64 0], []⟩ 8 (by kernel_rfl) (by kernel_rfl) (by kernel_rfl) (by kernel_rfl)) ?_
  intro W base args ds gs before hval0 hW hcnd hsz _
  have hval : ∀ (j : Nat) t v, Try.f4.params[j]? = some t → args[j]? = some v → Value.okWide Try.prog W .any base t v := hval0
  have hW' := hW
  obtain ⟨p, q, hA0, hV, rfl, hfz, hnd⟩ := hW
  have hA : DataW.TrodAll enc Try.prog W 0 (fun _ => true) true Try.f4.params.toList args.toList ds p := hA0
  rw [Try.params4] at hA hval
  obtain ⟨v0, vs0, d0, ds0, p0, q0, hargs, rfl, rfl, h0, r0⟩ := trodAll_cons hA
  obtain ⟨v1, vs1, d1, ds1, p1, q1, rfl, rfl, rfl, h1, r1⟩ := trodAll_cons r0
  obtain ⟨rfl, rfl, rfl⟩ := trodAll_nil r1
  obtain rfl : args = #[v0, v1] := by cases args; simp_all
  obtain ⟨rfl, rfl⟩ := trodVars_none hV
  obtain ⟨a0, len0, c0, rfl⟩ := okWide_slice Try.underlying22 (hval 0 22 v0 rfl rfl)
  have k0 := h0
  have lt0 : ∀ x ∈ p0, x.block < W.heap.size := by obtain ⟨m, hm⟩ := k0; exact DataW.trod_lt m _ _ _ hm
  obtain ⟨l0, rfl, hc0, hx0, hb0, hz0, hr0⟩ := row8 h0
  obtain ⟨n1, rfl, rfl, rfl, w1⟩ := open_int Try.underlying3 (hval 1 3 v1 rfl rfl) h1
  have hn1 := i64_bounds w1
  clear hA0 hval0
  have hm0 : c0 ≤ 140737488355328 := reach8 hsz (j := 0) (d := d0) rfl rfl hr0
  refine (walk a0 c0 l0 n1 W hc0 hm0 hb0 hz0 hn1).mono fun e W' ⟨he, bel⟩ => ?_
  subst he
  exact ⟨_, rfl, _, _, _, [], _, [], hW', trodAll_mk1 (shut_bool Try.underlying4 _), (trodAll_cons_mk (Below.trod laidOut (by kernel_rfl) (of_decide_eq_true (by kernel_rfl)) k0 bel lt0) (trodAll_cons_mk (shut_int Try.underlying3 w1) trodAll_mk0)), rfl, bel.frame _, fun h => by cases h⟩

theorem proved : Rows.FrameTurnedSaid :=
  OpenClaim.holds_of_wide 4 Try.f4 rfl rfl rfl rfl rfl rfl rfl ⟨rfl, rfl, rfl, rfl, rfl⟩ rfl rfl rfl rfl rfl (by kernel_rfl) Try.func4 (by kernel_rfl)
    (of_decide_eq_true (by kernel_rfl)) (by unfold Func.isWrapper; first | (rw [if_pos (by decide +kernel)]; kernel_rfl) | (rw [if_neg (by decide +kernel)]; exact ⟨rfl, rfl⟩))
    (fun os started H enc _ => lifted os started H enc)
end Go.Proofs.Ytmjojfngdfnabab.frameTurned
namespace Go.Proofs.Ytmjojfngdfnabab
theorem frameTurned_holds : Rows.FrameTurnedSaid := frameTurned.proved
#print axioms frameTurned_holds
end Go.Proofs.Ytmjojfngdfnabab
