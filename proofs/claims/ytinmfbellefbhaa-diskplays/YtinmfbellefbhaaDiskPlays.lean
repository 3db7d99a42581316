/- Proved: files, and what a crash leaves of them, are just what the document says, deed by deed; for all rooms and deeds (the first 200 are played); no condition. -/
import Derived.Test.YtinmfbellefbhaaDpl
import Derived.Test.YtinmfbellefbhaaDkk
namespace Go.Proofs.Ytinmfbellefbhaa.diskPlays
open Go.ChangeShapes Go.WideShapes Go.ChangeAt Go.RowKit
set_option linter.unusedVariables false

theorem own : ownKnob Try.prog.godebug = none := by kernel_rfl
theorem laidOut : laidOutB Try.prog = true := by kernel_rfl

set_option maxRecDepth 20000 in
set_option maxHeartbeats 40000000 in
theorem walk (z : Int) (a : Option Addr) (c : Nat) (es : List De) (w : World) (_hz : -9223372036854775808 ≤ z ∧ z ≤ 9223372036854775807) (hx : es.length ≤ maxLen) (hD : DesAt w a es) :
    Calls Try.prog 3 #[.int .i64 z, .slice a es.length c] w fun e w' => e = .returned (.bool true) ∧ Below w.heap.size w w' := by
  have HD := hide hD
  simp only [maxLen] at hx
  clear hD
  generalize hn : es.length = n at *
  have HN := hide hn
  clear hn
  have LN := hide (lnew_calls w z)
  have HR : z.toNat = z.toNat := rfl
  obtain ⟨room, hroom⟩ : ∃ room, z.toNat = room := ⟨_, rfl⟩
  have RO := hide hroom
  rw [hroom] at LN
  clear hroom HR
  go_enter Try.func3, Try.ntmps3
  go_wp2_with (first
    | (go_at_call 12
       refine (unhide LN).mono ?_
       rintro e W1 ⟨d, M, rfl, h1, b1⟩
       have B1 := hide b1
       have MN := hide (mnew_calls W1 b1.size z d M h1 (unhide RO))
       clear b1 h1)
    | (go_at_call 13
       refine (unhide MN).mono ?_
       rintro e W2 ⟨R, rfl, h2, b2⟩
       have B2 := hide ((unhide B1).trans (b2.mono (unhide B1).size))
       have T2 := hide h2
       clear b2 h2))
  go_loopw [7] (fun i wr => ∃ (j N : Nat) (ss : Ds), j ≤ n ∧ j ≤ 200 ∧ i = .int .i64 (j : Int) ∧ Hid (N ≤ j) ∧ Hid (Two w.heap.size [] wr d M R room N ss ss) ∧ Hid (Below w.heap.size w wr)) (fun i _ => n - (intOf i).toNat)
  case atStart => exact ⟨0, 0, [], by omega, by omega, rfl, hide (Nat.le_refl _), T2, B2⟩
  case round =>
    obtain ⟨j, N, ss, hj, hj200, rfl, HNj, T, F⟩ := hrel
    clear T2 B2 B1 MN LN
    by_cases hjm : j < n ∧ j < 200
    · have y0 : (0 : Int) ≤ (j : Int) := by omega
      have y1 : (j : Int) < (n : Int) := by omega
      have y2 : (j : Int) < 200 := by omega
      have hjl : j < es.length := by rw [unhide HN]; exact hjm.1
      obtain ⟨b, off, hh, rfl, cc, ha⟩ := (unhide HD).cell j hjl
      have LW := hide (fun W (hb : Below w.heap.size w W) => (DeLow.of ha).below hb)
      have CW := hide (show ∀ W, Below w.heap.size w W → deCells es[j] hh W b (off + j * 6) from fun W hb => by
        obtain ⟨h1, h2, h3, h4, h5, h6⟩ := cc
        exact ⟨cell_later hb h1, cell_later hb h2, cell_later hb h3, cell_later hb h4, cell_later hb h5, cell_later hb h6⟩)
      clear cc ha
      generalize es[j] = e at *
      have hN1 : N + 1 ≤ 300 := by have := unhide HNj; omega
      obtain ⟨q0, q1, q2, q3, q4, q5⟩ := unhide CW wr (unhide F)
      have SC := hide (short_calls e hh wr)
      unfold deVal at SC
      have DC := hide (fun W (hb : Below w.heap.size w W) (hT : Two w.heap.size [] W d M R room N ss ss) (hs : e.short = true) => do_calls hT hN1 e hh (unhide LW W hb) hs)
      unfold deVal at DC
      cases hsh : e.short with
      | false =>
        rw [hsh] at SC
        go_wp2_with (go_at_call 14; refine (unhide SC).mono ?_; rintro r W1 ⟨rfl, b1⟩; have T1 := hide ((unhide T).later b1); have F1 := hide ((unhide F).trans (b1.mono (unhide F).size)); clear b1)
        exact ⟨⟨j + 1, N, ss, by omega, by omega, by go_num, hide (Nat.le_succ_of_le (unhide HNj)), T1, F1⟩, by simp [intOf]; omega⟩
      | true =>
        rw [hsh] at SC
        by_cases hk : 4 < e.kind
        · go_wp2_with (first
            | (go_at_call 14
               refine (unhide SC).mono ?_
               rintro r W1 ⟨rfl, b1⟩
               have T1 := hide ((unhide T).later b1)
               have F1 := hide ((unhide F).trans (b1.mono (unhide F).size))
               obtain ⟨p0, p1, p2, p3, p4, p5⟩ := unhide CW W1 (unhide F1)
               have D1 := hide (unhide DC W1 (unhide F1) (unhide T1) hsh)
               clear b1)
            | (go_at_call 15
               refine (unhide D1).mono ?_
               rintro r W2 ⟨rfl, h2, k2⟩
               have T2 := hide h2
               have F2 := hide ((unhide F1).trans k2.below)
               obtain ⟨r0, r1, r2, r3, r4, r5⟩ := unhide CW W2 (unhide F2)
               have S2 := hide (same_calls h2)
               clear h2 k2)
            | (go_at_call 16
               refine (unhide S2).mono ?_
               rintro r W3 ⟨rfl, b3⟩
               have T3 := hide ((unhide T2).later b3)
               have F3 := hide ((unhide F2).trans (b3.mono (unhide F2).size))
               clear b3))
          exact ⟨⟨j + 1, N + 1, dDo room e ss, by omega, by omega, by go_num, hide (Nat.succ_le_succ (unhide HNj)), T3, F3⟩, by simp [intOf]; omega⟩
        · go_wp2_with (first
            | (go_at_call 14
               refine (unhide SC).mono ?_
               rintro r W1 ⟨rfl, b1⟩
               have T1 := hide ((unhide T).later b1)
               have F1 := hide ((unhide F).trans (b1.mono (unhide F).size))
               obtain ⟨p0, p1, p2, p3, p4, p5⟩ := unhide CW W1 (unhide F1)
               have D1 := hide (unhide DC W1 (unhide F1) (unhide T1) hsh)
               clear b1)
            | (go_at_call 15
               refine (unhide D1).mono ?_
               rintro r W2 ⟨rfl, h2, k2⟩
               have T2 := hide h2
               have F2 := hide ((unhide F1).trans k2.below)
               obtain ⟨r0, r1, r2, r3, r4, r5⟩ := unhide CW W2 (unhide F2)
               clear h2 k2))
          exact ⟨⟨j + 1, N + 1, dDo room e ss, by omega, by omega, by go_num, hide (Nat.succ_le_succ (unhide HNj)), T2, F2⟩, by simp [intOf]; omega⟩
    · have RA := hide (lreadE_calls (unhide T) (⟨#[97]⟩ : ByteArray) (sm (by decide)))
      by_cases hjn : j < n
      · have y1 : (j : Int) < (n : Int) := by omega
        have y2 : ¬ (j : Int) < 200 := by omega
        go_wp2_with (first
          | (go_at_call 17
             refine (unhide RA).mono ?_
             rintro e V1 ⟨p1, n1, c1, rfl, b1⟩
             have T1 := hide ((unhide T).later b1)
             have F1 := hide ((unhide F).trans (b1.mono (unhide F).size))
             have RB := hide (mreadE_calls (unhide T1) (⟨#[97]⟩ : ByteArray))
             clear b1)
          | (go_at_call 18
             refine (unhide RB).mono ?_
             rintro e V2 ⟨p2, n2, c2, rfl, b2⟩
             have T2 := hide ((unhide T1).later b2)
             have F2 := hide ((unhide F1).trans (b2.mono (unhide F1).size))
             have LV := hide (live5_calls V2)
             clear b2)
          | (go_at_call 19
             refine (unhide LV).mono ?_
             rintro e V3 ⟨rfl, b3⟩
             have F3 := hide ((unhide F2).trans (b3.mono (unhide F2).size))
             have SM := hide (same_calls ((unhide T2).later b3))
             clear b3)
          | (go_at_call 16
             refine (unhide SM).mono ?_
             rintro e V4 ⟨rfl, b4⟩
             have F4 := hide ((unhide F3).trans (b4.mono (unhide F3).size))
             clear b4))
        go_ret
        exact ⟨rfl, unhide F4⟩
      · have y1 : ¬ (j : Int) < (n : Int) := by omega
        go_wp2_with (first
          | (go_at_call 17
             refine (unhide RA).mono ?_
             rintro e V1 ⟨p1, n1, c1, rfl, b1⟩
             have T1 := hide ((unhide T).later b1)
             have F1 := hide ((unhide F).trans (b1.mono (unhide F).size))
             have RB := hide (mreadE_calls (unhide T1) (⟨#[97]⟩ : ByteArray))
             clear b1)
          | (go_at_call 18
             refine (unhide RB).mono ?_
             rintro e V2 ⟨p2, n2, c2, rfl, b2⟩
             have T2 := hide ((unhide T1).later b2)
             have F2 := hide ((unhide F1).trans (b2.mono (unhide F1).size))
             have LV := hide (live5_calls V2)
             clear b2)
          | (go_at_call 19
             refine (unhide LV).mono ?_
             rintro e V3 ⟨rfl, b3⟩
             have F3 := hide ((unhide F2).trans (b3.mono (unhide F2).size))
             have SM := hide (same_calls ((unhide T2).later b3))
             clear b3)
          | (go_at_call 16
             refine (unhide SM).mono ?_
             rintro e V4 ⟨rfl, b4⟩
             have F4 := hide ((unhide F3).trans (b4.mono (unhide F3).size))
             clear b4))
        go_ret
        exact ⟨rfl, unhide F4⟩

set_option maxRecDepth 100000 in
theorem lifted (os : Os) (started : os.Started) (H : Type) (enc : TypeId × Value → H) :
    ReturnsInHanded {} Try.checked os 3 .any (Rows.diskPlaysSpec.pre6 enc Try.prog Try.f3 Rows.diskPlaysRow.domain false) (Rows.diskPlaysSpec.post enc Try.prog Try.f3 false true false false) := by
  refine returnsInHanded_of_change_sized (C := Try.checked) own started (by kernel_rfl) Try.func3
    (ChangeSpec.witness6 (enc := enc) (C := Try.checked) false ⟨#[], #[.int .i64 0, .slice none 0 0], []⟩ 8 (by kernel_rfl) (by kernel_rfl) (by kernel_rfl) (by kernel_rfl)) ?_
  intro W base args ds gs before hval0 hW hcnd hsz _
  have hval : ∀ (j : Nat) t v, Try.f3.params[j]? = some t → args[j]? = some v → Value.okWide Try.prog W .any base t v := hval0
  have hW' := hW
  obtain ⟨p, q, hA0, hV, rfl, hfz, hnd⟩ := hW
  have hA : DataW.TrodAll enc Try.prog W 0 (fun _ => true) true Try.f3.params.toList args.toList ds p := hA0
  rw [Try.params3] at hA hval
  obtain ⟨v0, vs0, d0, ds0, p0, q0, hargs, rfl, rfl, h0, r0⟩ := trodAll_cons hA
  obtain ⟨v1, vs1, d1, ds1, p1, q1, rfl, rfl, rfl, h1, r1⟩ := trodAll_cons r0
  obtain ⟨rfl, rfl, rfl⟩ := trodAll_nil r1
  obtain rfl : args = #[v0, v1] := by cases args; simp_all
  obtain ⟨rfl, rfl⟩ := trodVars_none hV
  obtain ⟨n0, rfl, rfl, rfl, w0⟩ := open_int Try.underlying3 (hval 0 3 v0 rfl rfl) h0
  have hn0 := i64_bounds w0
  obtain ⟨a1, len1, c1, rfl⟩ := okWide_slice Try.underlying22 (hval 1 22 v1 rfl rfl)
  have k1 := h1
  have lt1 : ∀ x ∈ p1, x.block < W.heap.size := by obtain ⟨m, hm⟩ := k1; exact DataW.trod_lt m _ _ _ hm
  obtain ⟨l1, rfl, hx1, hb1⟩ := ddeeds_arg h1
  clear hA0 hval0
  refine (walk n0 a1 c1 l1 W hn0 hx1 hb1).mono fun e W' ⟨he, bel⟩ => ?_
  subst he
  exact ⟨_, rfl, _, _, _, [], _, [], hW', trodAll_mk1 (shut_bool Try.underlying4 _), (trodAll_cons_mk (shut_int Try.underlying3 w0) (trodAll_cons_mk (Below.trod laidOut (by kernel_rfl) (of_decide_eq_true (by kernel_rfl)) k1 bel lt1) trodAll_mk0)), rfl, bel.frame _, fun h => by cases h⟩

theorem proved : Rows.DiskPlaysSaid :=
  OpenClaim.holds_of_wide 3 Try.f3 rfl rfl rfl rfl rfl rfl rfl ⟨rfl, rfl, rfl, rfl, rfl⟩ rfl rfl rfl rfl rfl (by kernel_rfl) Try.func3 (by kernel_rfl)
    (of_decide_eq_true (by kernel_rfl)) (by unfold Func.isWrapper; first | (rw [if_pos (by decide +kernel)]; kernel_rfl) | (rw [if_neg (by decide +kernel)]; exact ⟨rfl, rfl⟩))
    (fun os started H enc _ => lifted os started H enc)
end Go.Proofs.Ytinmfbellefbhaa.diskPlays
namespace Go.Proofs.Ytinmfbellefbhaa
theorem diskPlays_holds : Rows.DiskPlaysSaid := diskPlays.proved
#print axioms diskPlays_holds
end Go.Proofs.Ytinmfbellefbhaa
