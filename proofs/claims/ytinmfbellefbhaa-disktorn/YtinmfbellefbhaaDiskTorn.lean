/- Proved: of bytes that were not synced a crash leaves the first ones, behind or over those that last; for all bytes, places and numbers; no condition. -/
import Derived.Test.YtinmfbellefbhaaArg
import Derived.Test.YtinmfbellefbhaaDkn
namespace Go.Proofs.Ytinmfbellefbhaa.diskTorn
open Go.ChangeShapes Go.WideShapes Go.ChangeAt Go.RowKit
set_option linter.unusedVariables false

theorem own : ownKnob Try.prog.godebug = none := by kernel_rfl
theorem laidOut : laidOutB Try.prog = true := by kernel_rfl

theorem lowB {w : World} {a : Option Addr} {l : List Nat} (h : BytesAt w a l) (n : Nat) (hn : l.length = n) (base : Nat) (hb : w.heap.size ≤ base) : ∀ b off, a = some ⟨b, off, none⟩ → 0 < n → b < base := by
  intro b off e h0
  obtain ⟨b', off', e1, e2⟩ := h.cell 0 (by omega)
  rw [e1] at e
  have hbb : b' = b := by simpa using congrArg (fun x => x.map Addr.block) e
  have := World.block_lt_of_cell? _ _ e2
  simp only at this
  omega
theorem torn1 (A : List Nat) (hA : A.length ≤ 4000) : dWrite 65536 [102] 0 A [] = (0, [([102], wrote sp0 0 A)]) := dWrite_new 65536 [102] rfl A [] rfl (by decide) (by omega) (by simp [usedS]; omega)
theorem torn2 (A : List Nat) : dSync [102] [([102], wrote sp0 0 A)] = (0, [([102], ⟨true, A, []⟩)]) := by
  have : dSync [102] [([102], wrote sp0 0 A)] = (0, [([102], ⟨true, (wrote sp0 0 A).now, []⟩)]) := rfl
  rw [this, wrote0_now]
set_option maxRecDepth 20000 in
set_option maxHeartbeats 40000000 in
theorem walk (a1 : Option Addr) (c1 : Nat) (l1 : List Nat) (a2 : Option Addr) (c2 : Nat) (l2 : List Nat) (x keep : Int) (w : World) (hc1 : l1.length ≤ c1) (hm1 : c1 ≤ 140737488355328) (hb1 : BytesAt w a1 l1) (hz1 : a1 = none → c1 = 0) (hc2 : l2.length ≤ c2) (hm2 : c2 ≤ 140737488355328) (hb2 : BytesAt w a2 l2) (hz2 : a2 = none → c2 = 0) (hx : -9223372036854775808 ≤ x ∧ x ≤ 9223372036854775807) (hkp : -9223372036854775808 ≤ keep ∧ keep ≤ 9223372036854775807) :
    Calls Try.prog 6 #[.slice a1 l1.length c1, .slice a2 l2.length c2, .agg #[.int .i64 x, .int .i64 keep]] w fun e w' => e = .returned (.bool true) ∧ Below w.heap.size w w' := by
  have b0 : Below w.heap.size w (w.alloc (.cells #[.int .i64 x, .int .i64 keep] 51)) := (Below.refl _ _).alloc (Nat.le_refl _) _
  have B0 := hide b0
  have LV := hide (fun W (b : Below w.heap.size w W) => (live5_calls W).mono (R' := fun e w' => e = .returned (.bool true) ∧ Below w.heap.size w w') (by rintro e W' ⟨rfl, b2⟩; exact ⟨rfl, b.trans (b2.mono b.size)⟩))
  by_cases hA : 4000 < l1.length
  · have hA2 : (4000 : Int) < (l1.length : Int) := by omega
    clear hb1 hb2 hc1 hc2 hz1 hz2 b0
    go_enter Try.func6, Try.ntmps6
    go_wp2_with (go_at_call 19; refine (unhide LV _ (unhide B0)).mono ?_; rintro e W ⟨rfl, b⟩; have B := hide b; clear b)
    go_ret
    exact ⟨rfl, unhide B⟩
  · have hA2 : ¬ (4000 : Int) < (l1.length : Int) := by omega
    by_cases hB : 4000 < l2.length
    · have hB2 : (4000 : Int) < (l2.length : Int) := by omega
      clear hb1 hb2 hc1 hc2 hz1 hz2 b0
      go_enter Try.func6, Try.ntmps6
      go_wp2_with (go_at_call 19; refine (unhide LV _ (unhide B0)).mono ?_; rintro e W ⟨rfl, b⟩; have B := hide b; clear b)
      go_ret
      exact ⟨rfl, unhide B⟩
    · have hB2 : ¬ (4000 : Int) < (l2.length : Int) := by omega
      obtain ⟨k, hk, hk2⟩ := rem_nat x (l1.length + 1) (by omega) (by omega)
      have W1 := hide (fun (W : World) (b : Below w.heap.size w W) {base d M N : Nat} {ss : Ds} (hb : w.heap.size ≤ base) (h : Dv base W d M 65536 N ss) (hN : N + 1 ≤ 1000000) => vwrite_calls h hN (⟨#[102]⟩ : ByteArray) (sm (by decide)) 0 (by omega) a1 l1.length c1 l1 rfl hc1 (hb1.later b) hz1 (lowB hb1 l1.length rfl base hb) (by omega))
      have W2 := hide (fun (W : World) (b : Below w.heap.size w W) {base d M N : Nat} {ss : Ds} (hb : w.heap.size ≤ base) (h : Dv base W d M 65536 N ss) (hN : N + 1 ≤ 1000000) => vwrite_calls h hN (⟨#[102]⟩ : ByteArray) (sm (by decide)) (k : Int) (by omega) a2 l2.length c2 l2 rfl hc2 (hb2.later b) hz2 (lowB hb2 l2.length rfl base hb) (by omega))
      have P1 := hide (torn1 l1 (by omega))
      have P3 := hide (torn_write l1 l2 k (by omega) (by omega) (by omega))
      have P4 := hide (torn_crash l1 l2 k keep)
      have HB1 := hide hb1
      have HB2 := hide hb2
      have HZ1 := hide hz1
      have HC2 := hide hc2
      generalize hn1 : l1.length = n1 at *
      generalize hn2 : l2.length = n2 at *
      have HN1 := hide hn1
      have HN2 := hide hn2
      have c0 : (w.alloc (.cells #[.int .i64 x, .int .i64 keep] 51)).cell? ⟨w.heap.size, 0, none⟩ = some (.int .i64 x) := fcell (heap_new w _) 0 _ rfl
      have c1' : (w.alloc (.cells #[.int .i64 x, .int .i64 keep] 51)).cell? ⟨w.heap.size, 1, none⟩ = some (.int .i64 keep) := fcell (heap_new w _) 1 _ rfl
      clear hb1 hb2 hc1 hc2 hz1 hz2 hn1 hn2 hA hB b0
      go_enter Try.func6, Try.ntmps6
      go_wp2_with fail
      refine (vnew_calls _ 65536).mono ?_
      rintro e V1 ⟨d, M, rfl, h1, b1⟩
      have B1 := hide ((unhide B0).trans (b1.mono (unhide B0).size))
      have LB := hide (unhide B0).size
      have H1 := hide h1
      have d0 : V1.cell? ⟨w.heap.size, 0, none⟩ = some (.int .i64 x) := (b1.cell (p := ⟨w.heap.size, 0, none⟩) (by simp)).trans c0
      have d1 : V1.cell? ⟨w.heap.size, 1, none⟩ = some (.int .i64 keep) := (b1.cell (p := ⟨w.heap.size, 1, none⟩) (by simp)).trans c1'
      clear h1 b1 c0 c1'
      go_wp2_with fail
      go_quiet (fail)
      have hk' : wrap64 ((IntKind.u64.wrap x).tmod ((n1 : Int) + 1)) = (k : Int) := hk
      clear hk d0 d1
      have H1' := hide ((unhide H1).later (below_drewN (Below.refl _ _) nq))
      have B1' := hide (below_drewN (unhide B1) nq)
      go_wp2_with fail
      rw [hk']
      generalize V1.drewN nq = V1' at *
      clear H1 B1
      refine (unhide W1 V1' (unhide B1') (unhide LB) (unhide H1') (by omega)).mono ?_
      rintro e V2 ⟨he, h2, b2⟩
      rw [show dWrite 65536 (⟨#[102]⟩ : ByteArray).data.toList 0 l1 [] = _ from unhide P1] at he h2
      subst he
      have H2 := hide h2
      have B2 := hide ((unhide B1').trans (b2.mono (unhide LB)))
      clear h2 b2 B1' H1'
      go_wp2_with fail
      refine (vsync_calls (unhide H2) (⟨#[102]⟩ : ByteArray) (sm (by decide))).mono ?_
      rintro e V3 ⟨he, h3, b3⟩
      rw [show dSync (⟨#[102]⟩ : ByteArray).data.toList (0, [([102], wrote sp0 0 l1)]).2 = _ from torn2 l1] at he h3
      subst he
      have H3 := hide h3
      have B3 := hide ((unhide B2).trans (b3.mono (unhide LB)))
      clear h3 b3 B2 H2
      go_wp2_with fail
      refine (unhide W2 V3 (unhide B3) (unhide LB) (unhide H3) (by omega)).mono ?_
      rintro e V4 ⟨he, h4, b4⟩
      rw [show dWrite 65536 (⟨#[102]⟩ : ByteArray).data.toList (k : Int) l2 (0, [([102], ⟨true, l1, []⟩)]).2 = _ from unhide P3] at he h4
      subst he
      have H4 := hide h4
      have B4 := hide ((unhide B3).trans (b4.mono (unhide LB)))
      clear h4 b4 B3 H3
      go_wp2_with fail
      refine (vcrash_new (unhide H4) [keep] (by simp; exact hkp) 1 1 rfl).mono ?_
      rintro e V5 ⟨rfl, h5, b5⟩
      rw [show crashS [keep] 0 (0, [([102], wrote ⟨true, l1, []⟩ k l2)]).2 = _ from unhide P4] at h5
      have H5 := hide h5
      have B5 := hide ((unhide B4).trans (b5.mono (unhide LB)))
      clear h5 b5 B4 H4
      obtain ⟨K, hK⟩ : ∃ K, min keep.toNat n2 = K := ⟨_, rfl⟩
      have hKi : max 0 (min keep (n2 : Int)) = (K : Int) := by omega
      have hKi2 : max (min keep (n2 : Int)) 0 = (K : Int) := by omega
      have hKn : K ≤ n2 := by omega
      rw [hK] at H5
      clear hK P1 P3 P4
      have A5 := hide (show Below V5.heap.size V5 (V5.alloc (.cells #[] 5)) from (Below.refl _ _).alloc (Nat.le_refl _) _)
      have O5 := hide (OwnB.empty V5 V5.heap.size (Nat.le_refl _)).toBx
      go_wp2_with (at_builtin; refine wpList_appendBx rfl (.tmp 61) (.tmp 62) rfl V5.heap.size (some ⟨V5.heap.size, 0, none⟩) 0 0 [] rfl rfl (unhide O5) a1 n1 c1 rfl l1 (unhide HN1) (by exact (unhide HB1).later ((unhide B5).trans ((unhide A5).mono (unhide B5).size))) (unhide HZ1) (by simp; omega) (unhide A5).size ?_; intro sp6 n6 c6 V6 hn6 hX6 hG6; refine unhide ?_)
      refine hide ?_
      rw [List.nil_append] at hn6 hX6
      have B6 := hide (show Below V5.heap.size V5 V6 from (unhide A5).grown hG6.grown (unhide A5).size (fun g hg => by simp [blk] at hg; omega))
      have X6 := hide hX6
      clear hX6 hG6 A5 O5
      go_wp2_with fail
      go_loopw [11, 12] (fun v i wr => ∃ (j n : Nat) (sp : Option Addr) (c : Nat), j ≤ K ∧ v = .slice sp n c ∧ i = .int .i64 (j : Int) ∧ Hid ((overL l1 k (l2.take j)).length = n) ∧ Hid (Bx V5.heap.size wr sp c (overL l1 k (l2.take j))) ∧ Hid (Below V5.heap.size V5 wr)) (fun _ i _ => K - (intOf i).toNat)
      case atStart => exact ⟨0, n6, sp6, c6, by omega, rfl, rfl, by rw [List.take_zero, overL_nil]; exact hn6, by rw [List.take_zero, overL_nil]; exact X6, B6⟩
      case round =>
        obtain ⟨j, n, sp, c, hj, rfl, rfl, HL, HX, HB⟩ := hrel
        by_cases hjK : j < K
        · have hjK2 : (j : Int) < (K : Int) := by omega
          have hjl : j < l2.length := by rw [unhide HN2]; omega
          have hjn : (j : Int) < (n2 : Int) := by omega
          have hj0 : (0 : Int) ≤ (j : Int) := by omega
          have hw1 : IntKind.i64.wrap ((k : Int) + (j : Int)) = ((k + j : Nat) : Int) := by rw [IntKind.wrap_i64]; omega
          have hkl : k ≤ l1.length := by rw [unhide HN1]; omega
          have HLn := hide (show n = max l1.length (k + j) by
            rw [← unhide HL, overL_length _ _ _ hkl, List.length_take]; omega)
          have HBB := hide ((unhide HB2).later ((unhide B5).trans ((unhide HB).mono (unhide B5).size)))
          obtain ⟨bb, off, rfl, p0⟩ := (unhide HBB).cell j hjl
          rw [List.getD_eq_getElem?_getD, List.getElem?_eq_getElem hjl, Option.getD_some] at p0
          have hy : l2[j] < 256 := (unhide HBB).lt _ (List.getElem_mem hjl)
          by_cases hin : k + j < n1
          · have hin2 : ((k + j : Nat) : Int) < (n : Int) := by have := unhide HLn; rw [unhide HN1] at this; omega
            have hkj0 : (0 : Int) ≤ ((k + j : Nat) : Int) := by omega
            obtain ⟨g, rfl, hbg, q0, q1, q2, q3⟩ := (unhide HX).set (k + j) (by rw [unhide HL]; omega) l2[j] hy
            rw [← overL_set l1 k j l2 hkl hjl (by rw [unhide HN1]; exact hin)] at q2
            have X2 := hide q2
            have L2 := hide (show (overL l1 k (l2.take (j + 1))).length = n by
              rw [overL_set l1 k j l2 hkl hjl (by rw [unhide HN1]; exact hin), List.length_set]; exact unhide HL)
            have Bq := hide ((unhide HB).grown q3 (unhide HB).size (fun g' hg' => by have := Option.some.inj hg'; omega))
            clear q2 q3
            generalize l2[j] = yy at *
            go_wp2
            exact ⟨⟨j + 1, n, some ⟨g, 0, none⟩, c, by omega, rfl, by go_num, unhide L2, unhide X2, unhide Bq⟩, by simp [intOf]; omega⟩
          · have hin2 : ¬ ((k + j : Nat) : Int) < (n : Int) := by have := unhide HLn; rw [unhide HN1] at this; omega
            have hA := hide (show Below wr.heap.size wr (wr.alloc (.cells #[.int .u8 (l2[j] : Int)] 5)) from (Below.refl _ _).alloc (Nat.le_refl _) _)
            have XA := hide ((unhide HX).later (unhide hA))
            have YA := hide (lit_bytes wr [l2[j]] (0, 0) (by simpa using hy))
            have BA := hide ((unhide HB).trans ((unhide hA).mono (unhide HB).size))
            have E1 := hide (overL_app l1 k j l2 hjl (by rw [unhide HN1]; exact hin))
            have hnn : n ≤ 140737488355327 := by have := unhide HLn; rw [unhide HN1] at this; omega
            generalize l2[j] = yy at *
            go_wp2_with (at_builtin; refine wpList_appendBx rfl (.tmp 84) (.tmp 89) rfl V5.heap.size sp n c (overL l1 k (l2.take j)) rfl (unhide HL) (unhide XA) (some ⟨wr.heap.size, 0, none⟩) 1 1 rfl [yy] rfl (by exact unhide YA) (by simp) (by rw [unhide HL]; omega) (unhide BA).size ?_; intro sp7 n7 c7 V7 hn7 hX7 hG7; refine unhide ?_)
            refine hide ?_
            rw [← unhide E1] at hn7 hX7
            have X7 := hide hX7
            have B7 := hide (show Below V5.heap.size V5 V7 from (unhide BA).grown hG7.grown (unhide BA).size (fun g' hg' => ((unhide HX).isT g' hg').1))
            clear hX7 hG7
            go_wp2
            exact ⟨⟨j + 1, n7, sp7, c7, by omega, rfl, by go_num, unhide hn7, unhide X7, unhide B7⟩, by simp [intOf]; omega⟩
        · obtain rfl : j = K := by omega
          have hjK2 : ¬ (j : Int) < (j : Int) := by omega
          have HD := hide ((unhide H5).later (unhide HB))
          have BW := hide ((unhide B5).trans ((unhide HB).mono (unhide B5).size))
          go_wp2_with fail
          refine (vread_yes (unhide HD) (⟨#[102]⟩ : ByteArray) (sm (by decide)) ⟨true, overL l1 k (l2.take j), []⟩ (getS_head [102] _ _)).mono ?_
          rintro e V8 ⟨rp, rn, rfl, hrn, h8, hX8, b8⟩
          have X8 := hide (show BytesAt V8 rp (overL l1 k (l2.take j)) from hX8.bytes)
          have Y8 := hide ((unhide HX).bytes.later b8)
          have B8 := hide ((unhide BW).trans (b8.mono (unhide BW).size))
          clear hX8 b8
          go_wp2_with fail
          refine (live5_calls _).mono ?_
          rintro e V9 ⟨rfl, b9⟩
          have B9 := hide ((unhide B8).trans (b9.mono (unhide B8).size))
          have s1 := run_string8 rn rn hrn ((unhide X8).later b9)
          have s2 := run_string8 n c (unhide HL) ((unhide Y8).later b9)
          rw [show (Sp.mk true (overL l1 k (l2.take j)) []).now = overL l1 k (l2.take j) from rfl] at s1
          clear b9
          go_wp2
          go_ret
          exact ⟨rfl, unhide B9⟩

set_option maxRecDepth 100000 in
theorem lifted (os : Os) (started : os.Started) (H : Type) (enc : TypeId × Value → H) :
    ReturnsInHanded {} Try.checked os 6 .any (Rows.diskTornSpec.pre6 enc Try.prog Try.f6 Rows.diskTornRow.domain false) (Rows.diskTornSpec.post enc Try.prog Try.f6 false true false false) := by
  refine returnsInHanded_of_change_sized (C := Try.checked) own started (by kernel_rfl) Try.func6
    (ChangeSpec.witness6 (enc := enc) (C := Try.checked) false ⟨#[], #[.slice none 0 0, .slice none 0 0, .agg #[.int .i64 0, .int .i64 0]], []⟩ 8 (by kernel_rfl) (by kernel_rfl) (by kernel_rfl) (by kernel_rfl)) ?_
  intro W base args ds gs before hval0 hW hcnd hsz _
  have hval : ∀ (j : Nat) t v, Try.f6.params[j]? = some t → args[j]? = some v → Value.okWide Try.prog W .any base t v := hval0
  have hW' := hW
  obtain ⟨p, q, hA0, hV, rfl, hfz, hnd⟩ := hW
  have hA : DataW.TrodAll enc Try.prog W 0 (fun _ => true) true Try.f6.params.toList args.toList ds p := hA0
  rw [Try.params6] at hA hval
  obtain ⟨v0, vs0, d0, ds0, p0, q0, hargs, rfl, rfl, h0, r0⟩ := trodAll_cons hA
  obtain ⟨v1, vs1, d1, ds1, p1, q1, rfl, rfl, rfl, h1, r1⟩ := trodAll_cons r0
  obtain ⟨v2, vs2, d2, ds2, p2, q2, rfl, rfl, rfl, h2, r2⟩ := trodAll_cons r1
  obtain ⟨rfl, rfl, rfl⟩ := trodAll_nil r2
  obtain rfl : args = #[v0, v1, v2] := by cases args; simp_all
  obtain ⟨rfl, rfl⟩ := trodVars_none hV
  obtain ⟨a0, len0, c0, rfl⟩ := okWide_slice Try.underlying28 (hval 0 28 v0 rfl rfl)
  have k0 := h0
  have lt0 : ∀ x ∈ p0, x.block < W.heap.size := by obtain ⟨m, hm⟩ := k0; exact DataW.trod_lt m _ _ _ hm
  obtain ⟨l0, rfl, hc0, hx0, hb0, hz0, hr0⟩ := row8 h0
  obtain ⟨a1, len1, c1, rfl⟩ := okWide_slice Try.underlying28 (hval 1 28 v1 rfl rfl)
  have k1 := h1
  have lt1 : ∀ x ∈ p1, x.block < W.heap.size := by obtain ⟨m, hm⟩ := k1; exact DataW.trod_lt m _ _ _ hm
  obtain ⟨l1, rfl, hc1, hx1, hb1, hz1, hr1⟩ := row8 h1
  have k2 := h2
  have lt2 : ∀ x ∈ p2, x.block < W.heap.size := by obtain ⟨m, hm⟩ := k2; exact DataW.trod_lt m _ _ _ hm
  obtain ⟨t2, u2, rfl, bt2, bu2⟩ := open_pair (hval 2 51 v2 rfl rfl) h2
  clear hA0 hval0
  have hm0 : c0 ≤ 140737488355328 := reach8 hsz (j := 0) (d := d0) rfl rfl hr0
  have hm1 : c1 ≤ 140737488355328 := reach8 hsz (j := 1) (d := d1) rfl rfl hr1
  refine (walk a0 c0 l0 a1 c1 l1 t2 u2 W hc0 hm0 hb0 hz0 hc1 hm1 hb1 hz1 bt2 bu2).mono fun e W' ⟨he, bel⟩ => ?_
  subst he
  exact ⟨_, rfl, _, _, _, [], _, [], hW', trodAll_mk1 (shut_bool Try.underlying4 _), (trodAll_cons_mk (Below.trod laidOut (by kernel_rfl) (of_decide_eq_true (by kernel_rfl)) k0 bel lt0) (trodAll_cons_mk (Below.trod laidOut (by kernel_rfl) (of_decide_eq_true (by kernel_rfl)) k1 bel lt1) (trodAll_cons_mk (Below.trod laidOut (by kernel_rfl) (of_decide_eq_true (by kernel_rfl)) k2 bel lt2) trodAll_mk0))), rfl, bel.frame _, fun h => by cases h⟩

theorem proved : Rows.DiskTornSaid :=
  OpenClaim.holds_of_wide 6 Try.f6 rfl rfl rfl rfl rfl rfl rfl ⟨rfl, rfl, rfl, rfl, rfl⟩ rfl rfl rfl rfl rfl (by kernel_rfl) Try.func6 (by kernel_rfl)
    (of_decide_eq_true (by kernel_rfl)) (by unfold Func.isWrapper; first | (rw [if_pos (by decide +kernel)]; kernel_rfl) | (rw [if_neg (by decide +kernel)]; exact ⟨rfl, rfl⟩))
    (fun os started H enc _ => lifted os started H enc)
end Go.Proofs.Ytinmfbellefbhaa.diskTorn
namespace Go.Proofs.Ytinmfbellefbhaa
theorem diskTorn_holds : Rows.DiskTornSaid := diskTorn.proved
#print axioms diskTorn_holds
end Go.Proofs.Ytinmfbellefbhaa
