/- Proved: behind a crash all bytes last, and a second one changes nothing; for all deeds (the first 200 are played) and numbers; no condition. -/
import Derived.Test.YtinmfbellefbhaaDpy
import Derived.Test.YtinmfbellefbhaaDkk
namespace Go.Proofs.Ytinmfbellefbhaa.diskTwice
open Go.ChangeShapes Go.WideShapes Go.ChangeAt Go.RowKit
set_option linter.unusedVariables false

theorem own : ownKnob Try.prog.godebug = none := by kernel_rfl
theorem laidOut : laidOutB Try.prog = true := by kernel_rfl

theorem crashS_all (ks : List Int) : ∀ (l : Ds) (i : Nat), ∀ x ∈ crashS ks i l, x.2.la = true ∧ x.2.cs = []
  | [], _, x, hx => by simp [crashS] at hx
  | y :: l, i, x, hx => by
    unfold crashS crashOne at hx
    rcases List.mem_append.1 hx with hx | hx
    · split at hx
      · simp at hx
      · have := List.mem_singleton.1 hx
        subst this
        exact ⟨rfl, rfl⟩
    · exact crashS_all ks l (i + 1) x hx
theorem crashS_settled (ks : List Int) : ∀ (l : Ds) (i : Nat), (∀ x ∈ l, x.2.la = true ∧ x.2.cs = []) → crashS ks i l = l
  | [], _, _ => rfl
  | y :: l, i, h => by
    unfold crashS
    rw [crashS_settled ks l (i + 1) (fun x hx => h x (List.mem_cons_of_mem _ hx))]
    obtain ⟨k, la, yy, cs⟩ := y
    obtain ⟨h1, h2⟩ := h _ List.mem_cons_self
    simp only at h1 h2
    subst h1 h2
    simp [crashOne, crashL]
set_option maxRecDepth 20000 in
set_option maxHeartbeats 40000000 in
theorem walk (a : Option Addr) (c : Nat) (es : List De) (kp : Option Addr) (kc : Nat) (ks : List Int) (up : Option Addr) (uc : Nat) (us : List Int) (w : World) (hx : es.length ≤ maxLen) (hD : DesAt w a es) (hxk : ks.length ≤ maxLen) (hK : IntsAt w kp ks) (hxu : us.length ≤ maxLen) (hU : IntsAt w up us) :
    Calls Try.prog 5 #[.slice a es.length c, .slice kp ks.length kc, .slice up us.length uc] w fun e w' => e = .returned (.bool true) ∧ Below w.heap.size w w' := by
  have PC := hide (play_calls 5000 a es.length c es w rfl hx hD)
  have KI := hide (fun W (hb : Below w.heap.size w W) => hK.later hb)
  have UI := hide (fun W (hb : Below w.heap.size w W) => hU.later hb)
  have KL := hide (fun b off e h0 => hK.lowB b off e h0)
  have UL := hide (fun b off e h0 => hU.lowB b off e h0)
  clear hx hD hK hU
  generalize es.length = n at *
  by_cases h100 : ks.length ≤ 100 ∧ us.length ≤ 100
  · have y1 : ¬ (100 : Int) < (ks.length : Int) := by omega
    have y2 : ¬ (100 : Int) < (us.length : Int) := by omega
    obtain ⟨h1k, h1u⟩ := h100
    go_enter Try.func5, Try.ntmps5
    go_wp2_with (first
      | (go_at_call 20
         refine (unhide PC).mono ?_
         rintro e W0 ⟨d, M, R, N, ss, rfl, hN, hT, b1⟩
         have F0 := hide b1
         have CC := hide (lcrash_calls hT kp ks.length kc ks rfl (unhide KI W0 b1) (unhide KL))
         clear hT b1)
      | (go_at_call 26
         refine (unhide CC).mono ?_
         rintro e W1 ⟨rfl, h1, k1⟩
         have F1 := hide ((unhide F0).trans k1.below)
         have T1 := hide h1
         have LN := hide (lnames_calls h1)
         have SET := hide (crashS_all ks ss 0)
         clear h1 k1)
      | (go_at_call 27
         refine (unhide LN).mono ?_
         rintro e W2 ⟨lp, m, lc, rfl, hm, hL, b2⟩
         have T2 := hide ((unhide T1).pushO b2 (blk lp) (fun g hg => ⟨(hL.blk_is g hg).1, (hL.blk_is g hg).2.1⟩))
         have F2 := hide ((unhide F1).trans (b2.mono (unhide F1).size))
         have L2 := hide hL
         have HM := hide hm
         clear hL b2 hm LN CC T1))
    generalize (5000 : Int).toNat = room at *
    generalize crashS ks 0 ss = s1 at *
    have h16 := (unhide T2).few16
    have NL := hide (unhide T2).names_le
    have RS := hide (unhide T2).riseS
    have hm16 : m ≤ 16 := by rw [← unhide HM]; exact h16
    have W0N := hide (OwnN.ofNil W2.heap.size W2)
    go_loopw [11, 12] (fun v i wr => ∃ (j : Nat) (sp : Option Addr) (cc : Nat), j ≤ m ∧ v = .slice sp j cc ∧ i = .int .i64 (j : Int) ∧ Hid (OwnN W2.heap.size wr sp cc ((s1.take j).map (fun x => x.2.y.map UInt8.ofNat))) ∧ Hid (Below W2.heap.size W2 wr)) (fun _ i _ => m - (intOf i).toNat)
    case atStart => exact ⟨0, none, 0, by omega, rfl, rfl, by rw [List.take_zero]; exact W0N, hide (Below.refl _ _)⟩
    case round =>
      obtain ⟨j, sp, cc, hj, rfl, rfl, HO, HB⟩ := hrel
      have FW := hide ((unhide F2).trans ((unhide HB).mono (unhide F2).size))
      by_cases hjm : j < m
      · have z1 : (j : Int) < (m : Int) := by omega
        have z0 : (0 : Int) ≤ (j : Int) := by omega
        have hjs : j < s1.length := by rw [unhide HM]; exact hjm
        have LA := hide (fun W (hb : Below wr.heap.size wr W) => ((unhide L2).later (unhide HB)).later hb)
        obtain ⟨g, rfl, p0⟩ := (unhide LA wr (Below.refl _ _)).cell j (by rw [List.length_map]; exact hjs)
        have LC := hide (show ∀ W, Below wr.heap.size wr W → W.cell? ⟨g, j, none⟩ = some (.string (str s1[j].1)) from fun W hb => by
          obtain ⟨g', e', p⟩ := (unhide LA W hb).cell j (by rw [List.length_map]; exact hjs)
          obtain rfl : g = g' := by simpa using e'
          rw [List.getElem_map] at p
          exact p)
        rw [List.getElem_map] at p0
        have G := hide (show getS s1[j].1 s1 = some s1[j].2 from getS_mem (unhide RS) (List.getElem_mem hjs))
        have K64 := hide (unhide NL _ (List.getElem_mem hjs))
        have SJ := unhide SET _ (List.getElem_mem hjs)
        have TK := hide (show (s1.take (j + 1)).map (fun x => x.2.y.map UInt8.ofNat) = (s1.take j).map (fun x => x.2.y.map UInt8.ofNat) ++ [s1[j].2.y.map UInt8.ofNat] by
          rw [List.take_succ_eq_append_getElem hjs]; simp only [List.map_append, List.map_cons, List.map_nil])
        have HT : Hid (((s1.take j).map (fun x => x.2.y.map UInt8.ofNat)).length = j) := hide (by rw [List.length_map, List.length_take]; omega)
        have TW := hide (fun W (hb : Below wr.heap.size wr W) => (unhide T2).later ((unhide HB).trans (hb.mono (unhide HB).size)))
        clear LA
        generalize s1[j] = zz at *
        obtain ⟨k, la, y, cs⟩ := zz
        simp only at p0 LC G K64 TK SJ
        obtain ⟨rfl, rfl⟩ := SJ
        have C1 := hide (lread_calls (unhide TW wr (Below.refl _ _)) k (unhide K64) ⟨true, y, []⟩ (unhide G))
        rw [show (Sp.mk true y []).now = y from rfl] at C1
        generalize (s1.take j).map (fun x => x.2.y.map UInt8.ofNat) = th at *
        go_wp2_with (first
          | (go_at_call 17
             refine (unhide C1).mono ?_
             rintro e V1 ⟨p1, n1, c1, rfl, hn1, hb1, b1⟩
             have D1 := hide b1
             have P1 := hide hb1
             have N1 := hide hn1
             have r1 := unhide LC V1 b1
             have C2 := hide (lsure_calls (unhide TW V1 b1) k (unhide K64) ⟨true, y, []⟩ (unhide G))
             rw [show sureE (Sp.mk true y []) = 0 from rfl, show sureL (Sp.mk true y []) = y from rfl] at C2
             clear b1 hb1 hn1)
          | (go_at_call 28
             refine (unhide C2).mono ?_
             rintro e V2 ⟨p2, n2, c2, rfl, hn2, hb2, b2⟩
             have D2 := hide ((unhide D1).trans (b2.mono (unhide D1).size))
             have s1' := run_string8 n1 c1 (unhide N1) ((unhide P1).later b2)
             have s2' := run_string8 n2 c2 hn2 hb2
             have BA := hide (show Below V2.heap.size V2 (V2.alloc (.cells #[.string (strOf y)] 9)) from (Below.refl _ _).alloc (Nat.le_refl _) _)
             have BB := hide ((unhide HB).trans (((unhide D2).trans ((unhide BA).mono (unhide D2).size)).mono (unhide HB).size))
             have OA := hide ((unhide HO).later ((unhide D2).trans ((unhide BA).mono (unhide D2).size)))
             have XA := hide (heap_new V2 (.cells #[.string (strOf y)] 9))
             clear b2 hb2 hn2)
          | (at_builtin
             refine wpList_appendN rfl (.tmp 84) (.tmp 87) rfl W2.heap.size sp j cc th rfl (unhide HT) (by exact unhide OA) V2.heap.size (y.map UInt8.ofNat) rfl (by exact unhide XA) (by omega) (unhide BB).size ?_
             intro sp7 c7 V7 hO7 hG7
             refine unhide ?_))
        refine hide ?_
        rw [← unhide TK] at hO7
        have O7 := hide hO7
        have B7 := hide (show Below W2.heap.size W2 V7 from (unhide BB).grown hG7.grown (unhide BB).size (fun g' hg' => ((unhide HO).blk_is g' hg').1))
        clear hO7 hG7
        go_wp2
        exact ⟨⟨j + 1, sp7, c7, by omega, rfl, by go_num, O7, B7⟩, by simp [intOf]; omega⟩
      · have z1 : ¬ (j : Int) < (m : Int) := by omega
        have hjs : s1.take j = s1 := List.take_of_length_le (by rw [unhide HM]; omega)
        rw [hjs] at HO
        have hjj : j = m := by omega
        subst hjj
        clear hjs
        have T3 := hide ((unhide T2).pushO (unhide HB) (blk sp) (fun g hg => ⟨((unhide HO).blk_is g hg).1, ((unhide HO).blk_is g hg).2.1⟩))
        have CC := hide (lcrash_calls (unhide T3) up us.length uc us rfl (unhide UI wr (unhide FW)) (unhide UL))
        rw [crashS_settled us s1 0 (unhide SET)] at CC
        have L3 := hide ((unhide L2).later (unhide HB))
        go_wp2_with (first
          | (go_at_call 26
             refine (unhide CC).mono ?_
             rintro e X1 ⟨rfl, h1, k1⟩
             have G1 := hide ((unhide FW).trans k1.below)
             have U1 := hide h1
             have LX1 := hide ((unhide L3).same (fun g hg => k1.block g (.inr (List.mem_append_right _ (List.mem_append_left _ (by rw [hg]; simp))))))
             have OX1 := hide ((unhide HO).same (fun g hg => k1.block g (.inr (List.mem_append_left _ (by rw [hg]; simp)))))
             have LN := hide (lnames_calls h1)
             clear h1 k1)
          | (go_at_call 27
             refine (unhide LN).mono ?_
             rintro e X2 ⟨np, m2, nc, rfl, hm2, hL2, b2⟩
             have hmm : m2 = j := hm2.symm.trans (unhide HM)
             subst hmm
             have G2 := hide ((unhide G1).trans (b2.mono (unhide G1).size))
             have U2 := hide ((unhide U1).later b2)
             have LX2 := hide ((unhide LX1).later b2)
             have OX2 := hide ((unhide OX1).later b2)
             have ST := hide (sameTexts_yes _ _ X2 (s1.map (·.1)) m2 (by rw [List.length_map]; exact hm2) (by omega) np lp nc lc hL2 ((unhide LX1).later b2))
             clear b2 hL2 hm2)
          | (go_at_call 29
             refine (unhide ST).mono ?_
             rintro e X3 ⟨rfl, b3⟩
             have G3 := hide ((unhide G2).trans (b3.mono (unhide G2).size))
             have U3 := hide ((unhide U2).later b3)
             have LX3 := hide ((unhide LX2).later b3)
             have OX3 := hide ((unhide OX2).later b3)
             clear b3))
        go_loopw [17] (fun i w4 => ∃ q : Nat, q ≤ m2 ∧ i = .int .i64 (q : Int) ∧ Hid (Below X3.heap.size X3 w4)) (fun i _ => m2 - (intOf i).toNat)
        case atStart => exact ⟨0, by omega, rfl, hide (Below.refl _ _)⟩
        case round =>
          obtain ⟨q, hq, rfl, HQ⟩ := hrel
          have GW := hide ((unhide G3).trans ((unhide HQ).mono (unhide G3).size))
          by_cases hqm : q < m2
          · have z1 : (q : Int) < (m2 : Int) := by omega
            have z0 : (0 : Int) ≤ (q : Int) := by omega
            have hqs : q < s1.length := by rw [unhide HM]; exact hqm
            obtain ⟨g, rfl, p0⟩ := ((unhide LX3).later (unhide HQ)).cell q (by rw [List.length_map]; exact hqs)
            obtain ⟨g2, rfl, w0⟩ := (unhide OX3).cell q (by rw [List.length_map]; exact hqs)
            rw [List.getElem_map] at p0 w0
            have WC := hide (show ∀ W, Below wr.heap.size wr W → W.cell? ⟨g2, q, none⟩ = some (.string (strOf s1[q].2.y)) from fun W hb => cell_later hb (cell_later (unhide HQ) w0))
            have G := hide (show getS s1[q].1 s1 = some s1[q].2 from getS_mem (unhide RS) (List.getElem_mem hqs))
            have K64 := hide (unhide NL _ (List.getElem_mem hqs))
            have SJ := unhide SET _ (List.getElem_mem hqs)
            clear w0
            generalize s1[q] = zz at *
            obtain ⟨k, la, y, cs⟩ := zz
            simp only at p0 G K64 SJ WC
            obtain ⟨rfl, rfl⟩ := SJ
            have C1 := hide (lread_calls ((unhide U3).later (unhide HQ)) k (unhide K64) ⟨true, y, []⟩ (unhide G))
            rw [show (Sp.mk true y []).now = y from rfl] at C1
            go_wp2_with (go_at_call 17; refine (unhide C1).mono ?_; rintro e V1 ⟨p1, n1, c1, rfl, hn1, hb1, b1⟩; have s1' := run_string8 (w := V1.drew) n1 c1 hn1 ⟨hb1.lt, hb1.cell⟩; have w0 := unhide WC V1 b1; have D1 := hide ((unhide HQ).trans (b1.mono (unhide HQ).size)); clear b1)
            go_region
            go_wp2
            exact ⟨⟨q + 1, by omega, by go_num, hide ((unhide D1).trans ⟨rfl, rfl, rfl, Nat.le_refl _, fun _ _ => rfl⟩)⟩, by simp [intOf]; omega⟩
          · have z1 : ¬ (q : Int) < (m2 : Int) := by omega
            have LV := hide (live5_calls wr)
            go_wp2_with (go_at_call 19; refine (unhide LV).mono ?_; rintro e V9 ⟨rfl, b9⟩; have G9 := hide ((unhide GW).trans (b9.mono (unhide GW).size)); clear b9)
            go_ret
            exact ⟨rfl, unhide G9⟩
  · by_cases h1 : ks.length ≤ 100
    · have y1 : ¬ (100 : Int) < (ks.length : Int) := by omega
      have y2 : (100 : Int) < (us.length : Int) := by omega
      go_enter Try.func5, Try.ntmps5
      go_wp2_with (first
        | (go_at_call 20
           refine (unhide PC).mono ?_
           rintro e W0 ⟨d, M, R, N, ss, rfl, hN, hT, b1⟩
           have F0 := hide b1
           have LV := hide (live5_calls W0)
           clear hT b1)
        | (go_at_call 19
           refine (unhide LV).mono ?_
           rintro e V9 ⟨rfl, b9⟩
           have G9 := hide ((unhide F0).trans (b9.mono (unhide F0).size))
           clear b9))
      go_ret
      exact ⟨rfl, unhide G9⟩
    · have y1 : (100 : Int) < (ks.length : Int) := by omega
      go_enter Try.func5, Try.ntmps5
      go_wp2_with (first
        | (go_at_call 20
           refine (unhide PC).mono ?_
           rintro e W0 ⟨d, M, R, N, ss, rfl, hN, hT, b1⟩
           have F0 := hide b1
           have LV := hide (live5_calls W0)
           clear hT b1)
        | (go_at_call 19
           refine (unhide LV).mono ?_
           rintro e V9 ⟨rfl, b9⟩
           have G9 := hide ((unhide F0).trans (b9.mono (unhide F0).size))
           clear b9))
      go_ret
      exact ⟨rfl, unhide G9⟩

set_option maxRecDepth 100000 in
theorem lifted (os : Os) (started : os.Started) (H : Type) (enc : TypeId × Value → H) :
    ReturnsInHanded {} Try.checked os 5 .any (Rows.diskTwiceSpec.pre6 enc Try.prog Try.f5 Rows.diskTwiceRow.domain false) (Rows.diskTwiceSpec.post enc Try.prog Try.f5 false true false false) := by
  refine returnsInHanded_of_change_sized (C := Try.checked) own started (by kernel_rfl) Try.func5
    (ChangeSpec.witness6 (enc := enc) (C := Try.checked) false ⟨#[], #[.slice none 0 0, .slice none 0 0, .slice none 0 0], []⟩ 8 (by kernel_rfl) (by kernel_rfl) (by kernel_rfl) (by kernel_rfl)) ?_
  intro W base args ds gs before hval0 hW hcnd hsz _
  have hval : ∀ (j : Nat) t v, Try.f5.params[j]? = some t → args[j]? = some v → Value.okWide Try.prog W .any base t v := hval0
  have hW' := hW
  obtain ⟨p, q, hA0, hV, rfl, hfz, hnd⟩ := hW
  have hA : DataW.TrodAll enc Try.prog W 0 (fun _ => true) true Try.f5.params.toList args.toList ds p := hA0
  rw [Try.params5] at hA hval
  obtain ⟨v0, vs0, d0, ds0, p0, q0, hargs, rfl, rfl, h0, r0⟩ := trodAll_cons hA
  obtain ⟨v1, vs1, d1, ds1, p1, q1, rfl, rfl, rfl, h1, r1⟩ := trodAll_cons r0
  obtain ⟨v2, vs2, d2, ds2, p2, q2, rfl, rfl, rfl, h2, r2⟩ := trodAll_cons r1
  obtain ⟨rfl, rfl, rfl⟩ := trodAll_nil r2
  obtain rfl : args = #[v0, v1, v2] := by cases args; simp_all
  obtain ⟨rfl, rfl⟩ := trodVars_none hV
  obtain ⟨a0, len0, c0, rfl⟩ := okWide_slice Try.underlying22 (hval 0 22 v0 rfl rfl)
  have k0 := h0
  have lt0 : ∀ x ∈ p0, x.block < W.heap.size := by obtain ⟨m, hm⟩ := k0; exact DataW.trod_lt m _ _ _ hm
  obtain ⟨l0, rfl, hx0, hb0⟩ := ddeeds_arg h0
  obtain ⟨a1, len1, c1, rfl⟩ := okWide_slice Try.underlying29 (hval 1 29 v1 rfl rfl)
  have k1 := h1
  have lt1 : ∀ x ∈ p1, x.block < W.heap.size := by obtain ⟨m, hm⟩ := k1; exact DataW.trod_lt m _ _ _ hm
  obtain ⟨l1, rfl, hx1, hb1⟩ := row64 h1
  obtain ⟨a2, len2, c2, rfl⟩ := okWide_slice Try.underlying29 (hval 2 29 v2 rfl rfl)
  have k2 := h2
  have lt2 : ∀ x ∈ p2, x.block < W.heap.size := by obtain ⟨m, hm⟩ := k2; exact DataW.trod_lt m _ _ _ hm
  obtain ⟨l2, rfl, hx2, hb2⟩ := row64 h2
  clear hA0 hval0
  refine (walk a0 c0 l0 a1 c1 l1 a2 c2 l2 W hx0 hb0 hx1 hb1 hx2 hb2).mono fun e W' ⟨he, bel⟩ => ?_
  subst he
  exact ⟨_, rfl, _, _, _, [], _, [], hW', trodAll_mk1 (shut_bool Try.underlying4 _), (trodAll_cons_mk (Below.trod laidOut (by kernel_rfl) (of_decide_eq_true (by kernel_rfl)) k0 bel lt0) (trodAll_cons_mk (Below.trod laidOut (by kernel_rfl) (of_decide_eq_true (by kernel_rfl)) k1 bel lt1) (trodAll_cons_mk (Below.trod laidOut (by kernel_rfl) (of_decide_eq_true (by kernel_rfl)) k2 bel lt2) trodAll_mk0))), rfl, bel.frame _, fun h => by cases h⟩

theorem proved : Rows.DiskTwiceSaid :=
  OpenClaim.holds_of_wide 5 Try.f5 rfl rfl rfl rfl rfl rfl rfl ⟨rfl, rfl, rfl, rfl, rfl⟩ rfl rfl rfl rfl rfl (by kernel_rfl) Try.func5 (by kernel_rfl)
    (of_decide_eq_true (by kernel_rfl)) (by unfold Func.isWrapper; first | (rw [if_pos (by decide +kernel)]; kernel_rfl) | (rw [if_neg (by decide +kernel)]; exact ⟨rfl, rfl⟩))
    (fun os started H enc _ => lifted os started H enc)
end Go.Proofs.Ytinmfbellefbhaa.diskTwice
namespace Go.Proofs.Ytinmfbellefbhaa
theorem diskTwice_holds : Rows.DiskTwiceSaid := diskTwice.proved
#print axioms diskTwice_holds
end Go.Proofs.Ytinmfbellefbhaa
