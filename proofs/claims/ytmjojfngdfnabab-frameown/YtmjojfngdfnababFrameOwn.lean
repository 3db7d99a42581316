/- Proved: what frame.Next and frame.All tell is new memory; for all bytes; no condition. -/
import Derived.Test.YtmjojfngdfnababArg
import Derived.Test.YtmjojfngdfnababFar
import Derived.Deep.RegionHeld3
namespace Go.Proofs.Ytmjojfngdfnabab.frameOwn
open Go.ChangeShapes Go.WideShapes Go.ChangeAt Go.RowKit
set_option linter.unusedVariables false

theorem own : ownKnob Try.prog.godebug = none := by kernel_rfl
theorem laidOut : laidOutB Try.prog = true := by kernel_rfl

theorem str_same (l : List Nat) : ((strOf l).toList == (strOf l).toList) = true := by simp
theorem xor85 (x : Nat) (hx : x < 256) : ∃ y : Nat, bits .xor .u8 (x : Int) 85 = (y : Int) ∧ y < 256 := by
  refine ⟨x ^^^ 85, ?_, Nat.xor_lt_two_pow (n := 8) hx (by decide)⟩
  exact u8_xor_nat x 85 hx (by decide)

theorem wrap3 (n : Nat) (h : n ≤ 65536) : ((n : Int) + 3 == IntKind.i64.wrap ((n : Int) + 3)) = true := by
  rw [IntKind.wrap_i64]
  have : ((n : Int) + 3 + 9223372036854775808) % 18446744073709551616 - 9223372036854775808 = (n : Int) + 3 := by omega
  simp [this]

set_option maxHeartbeats 2000000 in
theorem walk (a0 : Option Addr) (c0 : Nat) (l0 : List Nat) (w : World) (hc0 : l0.length ≤ c0) (hm0 : c0 ≤ 140737488355328) (hb0 : BytesAt w a0 l0) (hz0 : a0 = none → c0 = 0) :
    Calls Try.prog 7 #[.slice a0 l0.length c0] w fun e w' => e = .returned (.bool true) ∧ Below w.heap.size w w' := by
  have HB := hide hb0
  clear hb0 hz0
  go_enter Try.func7, Try.ntmps7
  go_wp2_with fail
  by_cases hlong : 65536 < l0.length
  · refine (frame_long _ _ l0 _ (by simp only [maxLen]; omega) hlong).mono ?_
    rintro e W1 ⟨rfl, rfl⟩
    go_wp2_with fail
    refine (live_calls _).mono ?_
    rintro e W2 ⟨rfl, hb2⟩
    go_wp2
    go_ret
    exact ⟨rfl, hb2⟩
  · refine (frame_ok _ _ l0 _ (unhide HB) (by omega)).mono ?_
    rintro e W1 ⟨g, rfl, hb1, hg1, hcell⟩
    have hl6 : l0.length ≤ 65536 := by omega
    have hFlt := hide (frameB_lt (unhide HB).lt hl6)
    have BF := hide (bytesAt_block hcell (unhide hFlt))
    have HC1 := hide hcell
    have HLF := hide (frameB_length l0)
    have hgW1 : g < W1.heap.size := (Array.getElem?_eq_some_iff.1 hcell).1
    obtain ⟨hst, hend⟩ := one_frame l0 hl6
    have Hst := hide hst
    have Hend := hide hend
    obtain ⟨e2, h2⟩ := frame_next [] l0 [] hl6
    rw [List.nil_append, List.append_nil] at e2 h2
    have E2 := hide e2
    have H2 := hide h2
    have sx1 := run_string8 (c := 8 + l0.length) (8 + l0.length) (unhide HLF) (unhide BF)
    clear hcell hlong hst hend e2 h2
    go_wp2_with fail
    clear sx1
    refine (next_ok' _ _ _ (frameB l0) l0 0 _ _ rfl (unhide HLF) (by rw [unhide HLF]; simp only [maxLen]; omega) (by rw [unhide HLF]; exact Nat.le_refl _) (by omega) (by rw [unhide HLF]; omega) (unhide BF) (unhide E2) (unhide H2)).mono ?_
    rintro e W2 ⟨gy, rfl, hb2, hgy, hcy⟩
    have hgyW2 : gy < W2.heap.size := (Array.getElem?_eq_some_iff.1 hcy).1
    have HCY := hide hcy
    have BF2 := hide ((unhide BF).later hb2)
    have hbw2 := hide (hb1.trans (hb2.mono hb1.size))
    have A2 := hide ((unhide HB).later (unhide hbw2))
    have HC2 := hide ((hb2.block g hgW1).trans (unhide HC1))
    have hW12 := hb2.size
    clear hcy hb2 BF E2 H2
    go_wp2_with fail
    refine (all_known _ _ _ (frameB l0) [l0] (8 + l0.length) _ (unhide HLF) (by rw [unhide HLF]; omega) (by rw [unhide HLF]; exact Nat.le_refl _) (unhide BF2) (unhide Hst) (unhide Hend)).mono ?_
    rintro e W3 ⟨sp, cl, rfl, hb3, hoS⟩
    have BF3 := hide ((unhide BF2).later hb3)
    have A3 := hide ((unhide A2).later hb3)
    have HCY3 := hide ((hb3.block gy hgyW2).trans (unhide HCY))
    have HC3 := hide ((hb3.block g (by have := (unhide hbw2).size; omega)).trans (unhide HC2))
    have HS := hide hoS
    have hbw3 := hide ((unhide hbw2).trans (hb3.mono (unhide hbw2).size))
    have hsz : w.heap.size ≤ W1.heap.size := hb1.size
    have hW23 := hb3.size
    clear hoS hb3 BF2 A2 HCY HC2 HC1 hbw2 Hst Hend
    go_wp2
    go_loopw [11] (fun i wr => ∃ (k : Nat) (Y : List Nat), k ≤ l0.length ∧ i = .int .i64 (k : Int) ∧ Hid (wr.heap[gy]? = some (.cells (Y.map byteV).toArray 5 (0, 0))) ∧ Hid (Y.length = l0.length) ∧ Hid (∀ c ∈ Y, c < 256) ∧ Hid (W3.grownBy wr (some gy))) (fun i _ => l0.length - (intOf i).toNat)
    case atStart => exact ⟨0, l0, by omega, rfl, unhide HCY3, rfl, (unhide HB).lt, grown_refl _ _⟩
    case round =>
      obtain ⟨k, Y, hk, rfl, hY, hYl, hYlt, hgr⟩ := hrel
      by_cases hkn : k < l0.length
      · have hcell : wr.cell? ⟨gy, k, none⟩ = some (.int .u8 ((Y.getD k 0 : Nat) : Int)) := by
          obtain ⟨b, off, h1, h2⟩ := (bytesAt_block (unhide hY) (unhide hYlt)).cell k (by rw [unhide hYl]; exact hkn)
          cases h1
          rw [Nat.zero_add] at h2
          exact h2
        have hx := getD_lt (unhide hYlt) k
        have hfz : wr.frozen? ⟨gy, k, none⟩ = false := by simp [World.frozen?, unhide hY]
        generalize Y.getD k 0 = x at *
        obtain ⟨y, hy1, hy2⟩ := xor85 x hx
        have k0 : (0 : Int) ≤ (k : Int) := by omega
        have k1 : (k : Int) < (l0.length : Int) := by omega
        go_wp2
        exact ⟨⟨k + 1, Y.set k y, by omega, by go_num, heap_set_row (unhide hY) k y, by show _ = _; rw [List.length_set]; exact unhide hYl, mem_set8 (unhide hYlt) hy2, grown_trans (unhide hgr) (grown_set _ _ _ _)⟩, by simp [intOf]; omega⟩
      · have hoY := hide (OwnB.ofBlock (base := W1.heap.size) (unhide hY) hgy (unhide hYlt) (by rw [unhide hYl]; simp only [maxLen]; omega))
        rw [unhide hYl] at hoY
        have HYl := hide (unhide hYl)
        have hN := hide (bytesAt_block (l := [1, 2, 3]) (heap_new wr (.cells #[.int .u8 1, .int .u8 2, .int .u8 3] 5)) (by decide))
        have bA := hide (show Below wr.heap.size wr (wr.alloc (.cells #[.int .u8 1, .int .u8 2, .int .u8 3] 5)) from (Below.refl _ _).alloc (Nat.le_refl _) _)
        have hszr : W1.heap.size ≤ wr.heap.size := Nat.le_trans (by omega) (unhide hgr).size
        have r1 := hide (show Y.length + 3 ≤ 140737488355328 by rw [unhide hYl]; omega)
        go_wp2_with (at_builtin; refine wpList_append8 rfl (.tmp 46) (.tmp 47) rfl W1.heap.size (some ⟨gy, 0, none⟩) l0.length l0.length Y rfl (unhide HYl) (by exact (unhide hoY).later (unhide bA)) (some ⟨wr.heap.size, 0, none⟩) 3 3 rfl [1, 2, 3] rfl (by exact unhide hN) (fun h => by cases h) (unhide r1) ?b1 ?_; rotate_right; intro sp4 n4 c4 W4 hn4 ho4 hg4 hb4)
        case b1 => exact Nat.le_trans hszr (unhide bA).size
        have G34 : W3.grownBy W4 (some gy) := grown_trans (unhide hgr) (grown_trans (grown_below _ (unhide bA)) hg4)
        have hgne : g ≠ gy := by omega
        have BF4 := hide ((unhide BF3).far G34 (fun b off e => by simp only [Option.some.injEq, Addr.mk.injEq] at e; omega))
        have A4 := hide (BytesAt.farOld (unhide HB) (unhide A3) G34 (by omega))
        have HS4 := hide ((unhide HS).far G34 hgyW2)
        have HC4 := hide ((G34.block g (by omega) (fun e => by simp only [Option.some.injEq] at e; omega)).trans (unhide HC3))
        have hbw4 : Below w.heap.size w W4 := (unhide hbw3).trans ((Below.refl _ _).grown G34 (unhide hbw3).size (fun j hj => by simp only [Option.some.injEq] at hj; omega))
        have Hbw4 := hide hbw4
        have hn4' : n4 = l0.length + 3 := by rw [← unhide hn4, List.length_append, unhide HYl]; rfl
        subst hn4'
        have hsz4 : W2.heap.size ≤ W4.heap.size := by have := G34.size; omega
        obtain ⟨bl, ol, pl, cpl, rfl, hl1, hl2⟩ := (unhide HS4).rows 0 (by simp)
        have hl1' : W4.cell? ⟨bl, ol, none⟩ = some (.slice pl l0.length cpl) := hl1
        have BP := hide (show BytesAt W4 pl l0 from hl2)
        have sx := fun nq => run_string8 (w := W4.drewN nq) (c := 8 + l0.length) (8 + l0.length) (unhide HLF) ⟨(unhide BF4).lt, (unhide BF4).cell⟩
        have sl := fun nq => run_string8 (w := W4.drewN nq) (c := cpl) l0.length rfl ⟨(unhide BP).lt, (unhide BP).cell⟩
        have sb := fun nq => run_string8 (w := W4.drewN nq) (c := c0) l0.length rfl ⟨(unhide A4).lt, (unhide A4).cell⟩
        have t1 := str_same l0
        have t2 := str_same (frameB l0)
        clear hl1 hl2 ho4 hg4 hb4 G34 hbw4 hoY hN bA r1 hY hYl hYlt hgr HYl hn4
        generalize frameB l0 = F at *
        generalize strOf F = sF at *
        generalize hsl0 : strOf l0 = sl0 at *
        have Hsl0 := hide hsl0.symm
        clear hsl0
        go_wp2
        go_quiet (fail)
        have Hbw4q := hide (below_drewN (unhide Hbw4) nq)
        have HC4q := hide (show (W4.drewN nq).heap[g]? = some (.cells (F.map byteV).toArray 5 (0, 0)) from unhide HC4)
        have HS4q := hide (show OwnS W2.heap.size (W4.drewN nq) (.slice (some ⟨bl, ol, none⟩) 1 cl) [l0] from (unhide HS4).later (below_drewN (Below.refl _ _) nq))
        have A4q := hide (show BytesAt (W4.drewN nq) a0 l0 from ⟨(unhide A4).lt, (unhide A4).cell⟩)
        clear sx sl sb hl1' BP BF4 HS4 A4 HC4 Hbw4 t2
        generalize W4.drewN nq = V at *
        go_wp2
        go_loopw [12] (fun i wr => ∃ (k : Nat) (X : List Nat), k ≤ 8 + l0.length ∧ i = .int .i64 (k : Int) ∧ Hid (wr.heap[g]? = some (.cells (X.map byteV).toArray 5 (0, 0))) ∧ Hid (X.length = 8 + l0.length) ∧ Hid (∀ c ∈ X, c < 256) ∧ Hid (V.grownBy wr (some g))) (fun i _ => 8 + l0.length - (intOf i).toNat)
        case atStart => exact ⟨0, F, by omega, rfl, unhide HC4q, unhide HLF, unhide hFlt, grown_refl _ _⟩
        case round =>
          obtain ⟨m, X, hm, rfl, hX, hXl, hXlt, hgr⟩ := hrel
          by_cases hmn : m < 8 + l0.length
          · have hcell : ∃ v, wr.cell? ⟨g, m, none⟩ = some v := by
              obtain ⟨b, off, h1, h2⟩ := (bytesAt_block (unhide hX) (unhide hXlt)).cell m (by rw [unhide hXl]; exact hmn)
              cases h1
              rw [Nat.zero_add] at h2
              exact ⟨_, h2⟩
            obtain ⟨old, hold⟩ := hcell
            have hfz : wr.frozen? ⟨g, m, none⟩ = false := by simp [World.frozen?, unhide hX]
            have k0 : (0 : Int) ≤ (m : Int) := by omega
            have k1 : (m : Int) < 8 + (l0.length : Int) := by omega
            go_wp2
            exact ⟨⟨m + 1, X.set m 7, by omega, by go_num, heap_set_row (unhide hX) m 7, by show _ = _; rw [List.length_set]; exact unhide hXl, mem_set8 (unhide hXlt) (by omega), grown_trans (unhide hgr) (grown_set _ _ _ _)⟩, by simp [intOf]; omega⟩
          · have HS5 := hide ((unhide HS4q).far (unhide hgr) (by omega))
            have A5 := hide (BytesAt.farOld (unhide HB) (unhide A4q) (unhide hgr) hg1)
            have hbw5 := hide (show Below w.heap.size w wr from (unhide Hbw4q).trans ((Below.refl _ _).grown (unhide hgr) (unhide Hbw4q).size (fun j hj => by simp only [Option.some.injEq] at hj; omega)))
            obtain ⟨bl', ol', pl', cpl', e1, hl1, hl2⟩ := (unhide HS5).rows 0 (by simp)
            simp only [Option.some.injEq, Addr.mk.injEq, and_true] at e1
            obtain ⟨rfl, rfl⟩ := e1
            have h5 : wr.cell? ⟨bl, ol, none⟩ = some (.slice pl' l0.length cpl') := hl1
            have BP := hide (show BytesAt wr pl' l0 from hl2)
            clear hl1 hl2 hX hXl hXlt hgr HS5 HS4q A4q HC4q Hbw4q
            go_wp2
            have ss : Hid (sl0 = strOf l0) := unhide Hsl0
            go_region_held3 (fun w' => w'.cell? ⟨bl, ol, none⟩ = some (.slice pl' l0.length cpl') ∧ (convert 22 9 (.slice pl' l0.length cpl')).run Try.prog w' = .ok (.string sl0) w' ∧ (convert 22 9 (.slice a0 l0.length c0)).run Try.prog w' = .ok (.string sl0) w')
              (first
                | exact ⟨cell_later hb5 h5, by rw [unhide ss]; exact run_string8 l0.length cpl' rfl ((unhide BP).drew.later hb5), by rw [unhide ss]; exact run_string8 l0.length c0 rfl ((unhide A5).drew.later hb5)⟩
                | exact ⟨h5, by rw [unhide ss]; exact run_string8 l0.length cpl' rfl (unhide BP).drew, by rw [unhide ss]; exact run_string8 l0.length c0 rfl (unhide A5).drew⟩
                | exact ⟨h5, by rw [unhide ss]; exact run_string8 l0.length cpl' rfl (unhide BP), by rw [unhide ss]; exact run_string8 l0.length c0 rfl (unhide A5)⟩)
              (first
                | (go_at_call 10; refine (live_calls _).mono ?_; rintro e W5 ⟨rfl, hb5⟩))
            have hw : ((l0.length : Int) + 3 == IntKind.i64.wrap ((l0.length : Int) + 3)) = true := wrap3 _ hl6
            rw [hw]
            go_wp2
            go_ret
            exact ⟨rfl, (unhide hbw5).drew.trans (hb5.mono (unhide hbw5).size)⟩

set_option maxRecDepth 100000 in
theorem lifted (os : Os) (started : os.Started) (H : Type) (enc : TypeId × Value → H) :
    ReturnsInHanded {} Try.checked os 7 .any (Rows.frameOwnSpec.pre6 enc Try.prog Try.f7 Rows.frameOwnRow.domain false) (Rows.frameOwnSpec.post enc Try.prog Try.f7 false true false false) := by
  refine returnsInHanded_of_change_sized (C := Try.checked) own started (by kernel_rfl) Try.func7
    (ChangeSpec.witness6 (enc := enc) (C := Try.checked) false ⟨#[], #[.slice none 0 0], []⟩ 8 (by kernel_rfl) (by kernel_rfl) (by kernel_rfl) (by kernel_rfl)) ?_
  intro W base args ds gs before hval0 hW hcnd hsz _
  have hval : ∀ (j : Nat) t v, Try.f7.params[j]? = some t → args[j]? = some v → Value.okWide Try.prog W .any base t v := hval0
  have hW' := hW
  obtain ⟨p, q, hA0, hV, rfl, hfz, hnd⟩ := hW
  have hA : DataW.TrodAll enc Try.prog W 0 (fun _ => true) true Try.f7.params.toList args.toList ds p := hA0
  rw [Try.params7] at hA hval
  obtain ⟨v0, vs0, d0, ds0, p0, q0, hargs, rfl, rfl, h0, r0⟩ := trodAll_cons hA
  obtain ⟨rfl, rfl, rfl⟩ := trodAll_nil r0
  obtain rfl : args = #[v0] := by cases args; simp_all
  obtain ⟨rfl, rfl⟩ := trodVars_none hV
  obtain ⟨a0, len0, c0, rfl⟩ := okWide_slice Try.underlying22 (hval 0 22 v0 rfl rfl)
  have k0 := h0
  have lt0 : ∀ x ∈ p0, x.block < W.heap.size := by obtain ⟨m, hm⟩ := k0; exact DataW.trod_lt m _ _ _ hm
  obtain ⟨l0, rfl, hc0, hx0, hb0, hz0, hr0⟩ := row8 h0
  clear hA0 hval0
  have hm0 : c0 ≤ 140737488355328 := reach8 hsz (j := 0) (d := d0) rfl rfl hr0
  refine (walk a0 c0 l0 W hc0 hm0 hb0 hz0).mono fun e W' ⟨he, bel⟩ => ?_
  subst he
  exact ⟨_, rfl, _, _, _, [], _, [], hW', trodAll_mk1 (shut_bool Try.underlying4 _), (trodAll_cons_mk (Below.trod laidOut (by kernel_rfl) (of_decide_eq_true (by kernel_rfl)) k0 bel lt0) trodAll_mk0), rfl, bel.frame _, fun h => by cases h⟩

theorem proved : Rows.FrameOwnSaid :=
  OpenClaim.holds_of_wide 7 Try.f7 rfl rfl rfl rfl rfl rfl rfl ⟨rfl, rfl, rfl, rfl, rfl⟩ rfl rfl rfl rfl rfl (by kernel_rfl) Try.func7 (by kernel_rfl)
    (of_decide_eq_true (by kernel_rfl)) (by unfold Func.isWrapper; first | (rw [if_pos (by decide +kernel)]; kernel_rfl) | (rw [if_neg (by decide +kernel)]; exact ⟨rfl, rfl⟩))
    (fun os started H enc _ => lifted os started H enc)
end Go.Proofs.Ytmjojfngdfnabab.frameOwn
namespace Go.Proofs.Ytmjojfngdfnabab
theorem frameOwn_holds : Rows.FrameOwnSaid := frameOwn.proved
#print axioms frameOwn_holds
end Go.Proofs.Ytmjojfngdfnabab
