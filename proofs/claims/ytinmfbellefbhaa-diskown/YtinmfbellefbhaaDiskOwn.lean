/- Proved: what is read is new memory; for all deeds (the first 200 are played); no condition. -/
import Derived.Test.YtinmfbellefbhaaDpy
import Derived.Test.YtinmfbellefbhaaDkk
namespace Go.Proofs.Ytinmfbellefbhaa.diskOwn
open Go.ChangeShapes Go.WideShapes Go.ChangeAt Go.RowKit
set_option linter.unusedVariables false

theorem own : ownKnob Try.prog.godebug = none := by kernel_rfl
theorem laidOut : laidOutB Try.prog = true := by kernel_rfl

section
variable {base d M R room N : Nat} {B : List Nat} {w w' : World} {ss tt : Ds}
theorem lreadX (h : Two base B w d M R room N ss tt) (k : Nm) (hk : k.length ≤ 64) (x : Sp) (hx : getS k ss = some x) :
    Calls Try.prog 17 #[.pointer (some ⟨d, 0, none⟩), .string (str k)] w fun e w' => ∃ sp n c l, e = .returned (.tuple #[.slice sp n c, .int .i64 0]) ∧ l.length = n ∧ n ≤ 262144 ∧ Bx w.heap.size w' sp c l ∧ Below w.heap.size w w' := by
  obtain ⟨fs, sp, c, rs, h, rfl, rfl⟩ := h
  rw [sps_get, Option.map_eq_some_iff] at hx
  obtain ⟨⟨F, f⟩, hf, rfl⟩ := hx
  refine (dread_yes h.disk (str k) (str_small k hk) F f (by rw [str_list]; exact hf)).mono ?_
  rintro e w' ⟨sp', n, rfl, hn, h8, hX, hb⟩
  exact ⟨sp', n, n, _, rfl, hn, h8, hX, hb⟩
theorem lsureX (h : Two base B w d M R room N ss tt) (k : Nm) (hk : k.length ≤ 64) (x : Sp) (hx : getS k ss = some x) :
    Calls Try.prog 28 #[.pointer (some ⟨d, 0, none⟩), .string (str k)] w fun e w' => ∃ sp n c l q, e = .returned (.tuple #[.slice sp n c, .int .i64 q]) ∧ l.length = n ∧ n ≤ 262144 ∧ Bx w.heap.size w' sp c l ∧ Below w.heap.size w w' := by
  obtain ⟨fs, sp, c, rs, h, rfl, rfl⟩ := h
  rw [sps_get, Option.map_eq_some_iff] at hx
  obtain ⟨⟨F, f⟩, hf, rfl⟩ := hx
  cases hla : f.sp.la with
  | true =>
    refine (dsure_yes h.disk (str k) (str_small k hk) F f (by rw [str_list]; exact hf) hla).mono ?_
    rintro e w' ⟨sp', n, rfl, hn, h8, hX, hb⟩
    exact ⟨sp', n, n, _, 0, rfl, hn, h8, hX, hb⟩
  | false =>
    refine (dsure_not h.disk (str k) (str_small k hk) F f (by rw [str_list]; exact hf) hla).mono ?_
    rintro e w' ⟨rfl, rfl⟩
    exact ⟨none, 0, 0, [], 8, rfl, rfl, by omega, Bx.ofNil _ _, Below.refl _ _⟩
end
set_option maxRecDepth 20000 in
set_option maxHeartbeats 40000000 in
theorem walk (a : Option Addr) (c : Nat) (es : List De) (w : World) (hx : es.length ≤ maxLen) (hD : DesAt w a es) :
    Calls Try.prog 10 #[.slice a es.length c] w fun e w' => e = .returned (.bool true) ∧ Below w.heap.size w w' := by
  have PC := hide (play_calls 3000 a es.length c es w rfl hx hD)
  clear hx hD
  generalize es.length = n at *
  go_enter Try.func10, Try.ntmps10
  go_wp2_with (first
    | (go_at_call 20
       refine (unhide PC).mono ?_
       rintro e W1 ⟨d, M, R, N, ss, rfl, hN, hT, b1⟩
       have T1 := hide hT
       have F1 := hide b1
       have LN := hide (lnames_calls hT)
       have h16 := hT.few16
       have NL := hide hT.names_le
       have RS := hide hT.riseS
       clear hT b1)
    | (go_at_call 27
       refine (unhide LN).mono ?_
       rintro e W2 ⟨lp, m, lc, rfl, hm, hL, b2⟩
       have T2 := hide ((unhide T1).later b2)
       have F2 := hide ((unhide F1).trans (b2.mono (unhide F1).size))
       have L2 := hide hL
       have HM := hide hm
       clear hL b2))
  generalize (3000 : Int).toNat = room at *
  go_loopw [7] (fun i wr => ∃ j : Nat, j ≤ m ∧ i = .int .i64 (j : Int) ∧ Hid (Two w.heap.size [] wr d M R room N ss ss) ∧ Hid (OwnN W1.heap.size wr lp lc (ss.map (·.1))) ∧ Hid (Below w.heap.size w wr)) (fun i _ => m - (intOf i).toNat)
  case atStart => exact ⟨0, by omega, rfl, T2, L2, F2⟩
  case round =>
    obtain ⟨j, hj, rfl, T, L, F⟩ := hrel
    obtain ⟨wo, hwo⟩ : ∃ wo, wo = wr := ⟨_, rfl⟩
    subst hwo
    clear T1 T2 F1 F2 L2 LN PC
    by_cases hjm : j < m
    · have y1 : (j : Int) < (m : Int) := by omega
      have y0 : (0 : Int) ≤ (j : Int) := by omega
      have hjs : j < ss.length := by rw [unhide HM]; exact hjm
      obtain ⟨g, rfl, p0⟩ := (unhide L).cell j (by rw [List.length_map]; exact hjs)
      have LC := hide (show ∀ W, Below wo.heap.size wo W → W.cell? ⟨g, j, none⟩ = some (.string (str ss[j].1)) from fun W hb => by
        obtain ⟨g', e', p⟩ := ((unhide L).later hb).cell j (by rw [List.length_map]; exact hjs)
        obtain rfl : g = g' := by simpa using e'
        rw [List.getElem_map] at p
        exact p)
      rw [List.getElem_map] at p0
      have G := hide (show getS ss[j].1 ss = some ss[j].2 from getS_mem (unhide RS) (List.getElem_mem hjs))
      have K64 := hide (unhide NL _ (List.getElem_mem hjs))
      generalize ss[j] = zz at *
      obtain ⟨k, x⟩ := zz
      simp only at p0 LC G K64
      have C1 := hide (lreadX (unhide T) k (unhide K64) x (unhide G))
      go_wp2_with (first
        | (go_at_call 17
           refine (unhide C1).mono ?_
           rintro e V1 ⟨p1, n1, c1, l1, rfl, hn1, h81, hX1, b1⟩
           have D1 := hide b1
           have X1 := hide hX1
           have N1 := hide hn1
           have r1 := unhide LC V1 b1
           have C2 := hide (lsureX ((unhide T).later b1) k (unhide K64) x (unhide G))
           clear b1 hX1 hn1)
        | (go_at_call 28
           refine (unhide C2).mono ?_
           rintro e V2 ⟨p2, n2, c2, l2, q2, rfl, hn2, h82, hX2, b2⟩
           have D2 := hide ((unhide D1).trans (b2.mono (unhide D1).size))
           have X1b := hide ((unhide X1).later b2)
           have X2 := hide hX2
           have N2 := hide hn2
           have AP := hide (show ∀ g1 g2, blk p1 = some g1 → blk p2 = some g2 → g1 ≠ g2 from fun g1 g2 e1 e2 => by
             have := ((unhide X1).isT g1 e1).2.1
             have := (hX2.isT g2 e2).1
             omega)
           clear b2 hX2 hn2))
      go_loopw [12] (fun i w3 => ∃ (q : Nat) (l : List Nat), q ≤ n1 ∧ i = .int .i64 (q : Int) ∧ Hid (l.length = n1) ∧ Hid (Bx wo.heap.size w3 p1 c1 l) ∧ Hid (Bx V1.heap.size w3 p2 c2 l2) ∧ Hid (Below wo.heap.size wo w3)) (fun i _ => n1 - (intOf i).toNat)
      case atStart => exact ⟨0, l1, by omega, rfl, N1, X1b, X2, D2⟩
      case round =>
        obtain ⟨q, l, hq, rfl, HL, HX, HY, HW⟩ := hrel
        clear X1b X2 C1 C2 p0 r1
        by_cases hqn : q < n1
        · have hql : q < l.length := by rw [unhide HL]; exact hqn
          have z1 : (q : Int) < (n1 : Int) := by omega
          have z0 : (0 : Int) ≤ (q : Int) := by omega
          obtain ⟨y, hy, hy2⟩ := xor_byte l[q] 255 ((unhide HX).lt _ (List.getElem_mem hql)) (by decide)
          obtain ⟨g', rfl, hbg, q0, q1, qX, qg⟩ := (unhide HX).set q hql y hy2
          have X3 := hide qX
          have L3 := hide (show (l.set q y).length = n1 by rw [List.length_set]; exact unhide HL)
          have Y3 := hide ((unhide HY).grownNe qg (fun g2 e2 e => unhide AP g' g2 rfl e2 (Option.some.inj e)))
          have W3 := hide ((unhide HW).grown qg (unhide HW).size (fun g'' hg'' => by have := Option.some.inj hg''; omega))
          have hy' : bits .xor .u8 ((l[q] : Nat) : Int) 255 = (y : Int) := hy
          have q0' : wr.cell? ⟨g', q, none⟩ = some (.int .u8 (l[q] : Int)) := q0
          clear hy q0 qX qg
          generalize l[q] = xx at hy' q0'
          go_wp2
          exact ⟨⟨q + 1, l.set q y, by omega, by go_num, L3, X3, Y3, W3⟩, by simp [intOf]; omega⟩
        · have z1 : ¬ (q : Int) < (n1 : Int) := by omega
          have XB := hide (lit_bytes wr [1, 2, 3] (0, 0) (by decide))
          have bA := hide (show Below wr.heap.size wr (wr.alloc (.cells #[.int .u8 1, .int .u8 2, .int .u8 3] 5)) from (Below.refl _ _).alloc (Nat.le_refl _) _)
          have bW := hide ((unhide HW).trans ((unhide bA).mono (unhide HW).size))
          have XA := hide ((unhide HX).later (unhide bA))
          have YA := hide ((unhide HY).later (unhide bA))
          go_wp2_with (at_builtin; refine unhide ?_)
          refine hide ?_
          refine wpList_appendBx rfl (.tmp 60) (.tmp 61) rfl wo.heap.size p1 n1 c1 l rfl (unhide HL) (unhide XA) (some ⟨wr.heap.size, 0, none⟩) 3 3 rfl [1, 2, 3] rfl (by exact unhide XB) (by simp) (by rw [unhide HL]; omega) (unhide bW).size ?_
          intro sp7 n7 c7 V7 hn7 hX7 hG7
          have Y7 := hide ((unhide YA).grownNe hG7.grown (fun g2 e2 e => unhide AP g2 g2 e e2 rfl))
          have W7 := hide ((unhide bW).grown hG7.grown (unhide bW).size (fun g' hg' => ((unhide HX).isT g' hg').1))
          have h7 : ¬ (n7 : Int) < 3 := by
            have := unhide hn7
            simp at this
            omega
          clear hX7 hG7 XB bA bW XA YA HX HY HW HL
          go_wp2_with fail
          go_loopw [13] (fun i w3 => ∃ (q : Nat) (l : List Nat), q ≤ n2 ∧ i = .int .i64 (q : Int) ∧ Hid (l.length = n2) ∧ Hid (Bx V1.heap.size w3 p2 c2 l) ∧ Hid (Below wo.heap.size wo w3)) (fun i _ => n2 - (intOf i).toNat)
          case atStart => exact ⟨0, l2, by omega, rfl, N2, Y7, W7⟩
          case round =>
            obtain ⟨q, l, hq, rfl, HL, HX, HW⟩ := hrel
            clear W7 Y7
            have D1s := (unhide D1).size
            by_cases hqn : q < n2
            · have hql : q < l.length := by rw [unhide HL]; exact hqn
              have z1 : (q : Int) < (n2 : Int) := by omega
              have z0 : (0 : Int) ≤ (q : Int) := by omega
              obtain ⟨y, hy, hy2⟩ := xor_byte l[q] 254 ((unhide HX).lt _ (List.getElem_mem hql)) (by decide)
              obtain ⟨g', rfl, hbg, q0, q1, qX, qg⟩ := (unhide HX).set q hql y hy2
              have X3 := hide qX
              have L3 := hide (show (l.set q y).length = n2 by rw [List.length_set]; exact unhide HL)
              have W3 := hide ((unhide HW).grown qg (unhide HW).size (fun g'' hg'' => by have := Option.some.inj hg''; omega))
              have hy' : bits .xor .u8 ((l[q] : Nat) : Int) 254 = (y : Int) := hy
              have q0' : wr.cell? ⟨g', q, none⟩ = some (.int .u8 (l[q] : Int)) := q0
              clear hy q0 qX qg
              generalize l[q] = xx at hy' q0'
              go_wp2
              exact ⟨⟨q + 1, l.set q y, by omega, by go_num, L3, X3, W3⟩, by simp [intOf]; omega⟩
            · have z1 : ¬ (q : Int) < (n2 : Int) := by omega
              have XB := hide (lit_bytes wr [4] (0, 0) (by decide))
              have bA := hide (show Below wr.heap.size wr (wr.alloc (.cells #[.int .u8 4] 5)) from (Below.refl _ _).alloc (Nat.le_refl _) _)
              have bW := hide ((unhide HW).trans ((unhide bA).mono (unhide HW).size))
              have XA := hide (((unhide HX).later (unhide bA)).mono D1s)
              go_wp2_with (at_builtin; refine unhide ?_)
              refine hide ?_
              refine wpList_appendBx rfl (.tmp 75) (.tmp 76) rfl wo.heap.size p2 n2 c2 l rfl (unhide HL) (unhide XA) (some ⟨wr.heap.size, 0, none⟩) 1 1 rfl [4] rfl (by exact unhide XB) (by simp) (by rw [unhide HL]; omega) (unhide bW).size ?_
              intro sp9 n9 c9 V9 hn9 hX9 hG9
              have W9 := hide ((unhide bW).grown hG9.grown (unhide bW).size (fun g' hg' => Nat.le_trans D1s ((unhide HX).isT g' hg').1))
              have h9 : ¬ (n9 : Int) < 1 := by
                have := unhide hn9
                simp at this
                omega
              clear hX9 hG9 XB bA bW XA HX HW HL
              have E1 := hide ((unhide T).later (unhide W9))
              have E2 := hide ((unhide L).later (unhide W9))
              have E3 := hide ((unhide F).trans ((unhide W9).mono (unhide F).size))
              go_wp2
              exact ⟨⟨j + 1, by omega, by go_num, E1, E2, E3⟩, by simp [intOf]; omega⟩
    · have y1 : ¬ (j : Int) < (m : Int) := by omega
      have S1 := hide (same_calls (unhide T))
      go_wp2_with (first
        | (go_at_call 16
           refine (unhide S1).mono ?_
           rintro e V1 ⟨rfl, b1⟩
           have F1 := hide ((unhide F).trans (b1.mono (unhide F).size))
           have CC := hide (lcrash_calls ((unhide T).later b1) none 0 0 [] rfl ⟨by simp, by simp⟩ (fun b off e => by cases e))
           clear b1 S1)
        | (go_at_call 26
           refine (unhide CC).mono ?_
           rintro e V2 ⟨rfl, h2, k2⟩
           have F2 := hide ((unhide F1).trans k2.below)
           have CD := hide (mcrash_calls none 0 0 [] rfl ⟨by simp, by simp⟩ h2)
           clear h2 k2)
        | (go_at_call 33
           refine (unhide CD).mono ?_
           rintro e V3 ⟨rfl, h3, k3⟩
           have T3 := hide h3
           have F3 := hide ((unhide F2).trans k3.below)
           have LV := hide (live5_calls V3)
           clear h3 k3)
        | (go_at_call 19
           refine (unhide LV).mono ?_
           rintro e V4 ⟨rfl, b4⟩
           have F4 := hide ((unhide F3).trans (b4.mono (unhide F3).size))
           have S2 := hide (same_calls ((unhide T3).later b4))
           clear b4)
        | (go_at_call 16
           refine (unhide S2).mono ?_
           rintro e V5 ⟨rfl, b5⟩
           have F5 := hide ((unhide F4).trans (b5.mono (unhide F4).size))
           clear b5))
      go_ret
      exact ⟨rfl, unhide F5⟩

set_option maxRecDepth 100000 in
theorem lifted (os : Os) (started : os.Started) (H : Type) (enc : TypeId × Value → H) :
    ReturnsInHanded {} Try.checked os 10 .any (Rows.diskOwnSpec.pre6 enc Try.prog Try.f10 Rows.diskOwnRow.domain false) (Rows.diskOwnSpec.post enc Try.prog Try.f10 false true false false) := by
  refine returnsInHanded_of_change_sized (C := Try.checked) own started (by kernel_rfl) Try.func10
    (ChangeSpec.witness6 (enc := enc) (C := Try.checked) false ⟨#[], #[.slice none 0 0], []⟩ 8 (by kernel_rfl) (by kernel_rfl) (by kernel_rfl) (by kernel_rfl)) ?_
  intro W base args ds gs before hval0 hW hcnd hsz _
  have hval : ∀ (j : Nat) t v, Try.f10.params[j]? = some t → args[j]? = some v → Value.okWide Try.prog W .any base t v := hval0
  have hW' := hW
  obtain ⟨p, q, hA0, hV, rfl, hfz, hnd⟩ := hW
  have hA : DataW.TrodAll enc Try.prog W 0 (fun _ => true) true Try.f10.params.toList args.toList ds p := hA0
  rw [Try.params10] at hA hval
  obtain ⟨v0, vs0, d0, ds0, p0, q0, hargs, rfl, rfl, h0, r0⟩ := trodAll_cons hA
  obtain ⟨rfl, rfl, rfl⟩ := trodAll_nil r0
  obtain rfl : args = #[v0] := by cases args; simp_all
  obtain ⟨rfl, rfl⟩ := trodVars_none hV
  obtain ⟨a0, len0, c0, rfl⟩ := okWide_slice Try.underlying22 (hval 0 22 v0 rfl rfl)
  have k0 := h0
  have lt0 : ∀ x ∈ p0, x.block < W.heap.size := by obtain ⟨m, hm⟩ := k0; exact DataW.trod_lt m _ _ _ hm
  obtain ⟨l0, rfl, hx0, hb0⟩ := ddeeds_arg h0
  clear hA0 hval0
  refine (walk a0 c0 l0 W hx0 hb0).mono fun e W' ⟨he, bel⟩ => ?_
  subst he
  exact ⟨_, rfl, _, _, _, [], _, [], hW', trodAll_mk1 (shut_bool Try.underlying4 _), (trodAll_cons_mk (Below.trod laidOut (by kernel_rfl) (of_decide_eq_true (by kernel_rfl)) k0 bel lt0) trodAll_mk0), rfl, bel.frame _, fun h => by cases h⟩

theorem proved : Rows.DiskOwnSaid :=
  OpenClaim.holds_of_wide 10 Try.f10 rfl rfl rfl rfl rfl rfl rfl ⟨rfl, rfl, rfl, rfl, rfl⟩ rfl rfl rfl rfl rfl (by kernel_rfl) Try.func10 (by kernel_rfl)
    (of_decide_eq_true (by kernel_rfl)) (by unfold Func.isWrapper; first | (rw [if_pos (by decide +kernel)]; kernel_rfl) | (rw [if_neg (by decide +kernel)]; exact ⟨rfl, rfl⟩))
    (fun os started H enc _ => lifted os started H enc)
end Go.Proofs.Ytinmfbellefbhaa.diskOwn
namespace Go.Proofs.Ytinmfbellefbhaa
theorem diskOwn_holds : Rows.DiskOwnSaid := diskOwn.proved
#print axioms diskOwn_holds
end Go.Proofs.Ytinmfbellefbhaa
