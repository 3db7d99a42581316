/- Proved: what becomes of a Fork changes nothing of the disk, and the Fork goes on as a disk does; for all deeds (the first 200 are played), and others on the Fork (the first 100); no condition. -/
import Derived.Test.YtghdiemihceaoaaB12
import Derived.Test.YtghdiemihceaoaaB06
import Derived.Test.YtghdiemihceaoaaB13
namespace Go.Proofs.Ytghdiemihceaoaa.diskForks
open Go.ChangeShapes Go.WideShapes Go.ChangeAt Go.RowKit
set_option linter.unusedVariables false

theorem own : ownKnob Try.prog.godebug = none := by kernel_rfl
theorem laidOut : laidOutB Try.prog = true := by kernel_rfl

theorem two_forked {base : Nat} {B : List Nat} {w w2 w3 : World} {d M R room N d' M' R' : Nat} {fs fs' : List Fe} {sp sp' : Option Addr} {c c' : Nat} {rs : List Rf}
    (t : TwoAt base B w d M R room N fs sp c rs) (n2 : DiskAt w.heap.size w2 d' M' room N fs') (b2 : Below w.heap.size w w2) (r3 : RefAt 0 w3 R' room sp' c' rs) (hR : w2.heap.size ≤ R') (hs : ∀ g, blk sp' = some g → w2.heap.size ≤ g) (b3 : Below w2.heap.size w2 w3) : TwoAt w.heap.size [] w3 d' M' R' room N fs' sp' c' rs := by
  have s2 := b2.size
  have s3 := b3.size
  refine ⟨by omega, t.few, n2.later b3, r3, by omega, t.fewR, fun g hg hm => ?_, fun hm => ?_, by simp⟩
  · have h1 := (n2.mut_lt hm)
    rcases hg with rfl | hg | ⟨x, hx, hg⟩
    · omega
    · have := hs g hg; omega
    · have := ((t.ref.own.dat x hx).lt hg).2; omega
  · have := (n2.red_lt hm).2; omega
set_option maxRecDepth 20000 in
set_option maxHeartbeats 40000000 in
theorem walk (a : Option Addr) (c : Nat) (es : List De) (a' : Option Addr) (c' : Nat) (es' : List De) (w : World) (hx : es.length ≤ maxLen) (hD : DesAt w a es) (hx' : es'.length ≤ maxLen) (hD' : DesAt w a' es') :
    Calls Try.prog 9 #[.slice a es.length c, .slice a' es'.length c'] w fun e w' => e = .returned (.bool true) ∧ Below w.heap.size w w' := by
  have HD := hide hD'
  simp only [maxLen] at hx'
  generalize hn : es'.length = n at *
  have HN := hide hn
  clear hn hD'
  have PC := hide (play_calls 3000 a es.length c es w rfl hx hD)
  have P3 : (3000 : Int).toNat = 3000 := rfl
  rw [P3] at PC
  clear P3 hD hx
  generalize hes : es.length = m at *
  clear hes
  go_enter Try.func9, Try.ntmps9
  go_wp2_with (first
    | (go_at_call 20
       refine (unhide PC).mono ?_
       rintro e W1 ⟨d, M, R, N, ss, rfl, hN, h1, b1⟩
       have F1 := hide b1
       have T1 := hide h1
       obtain ⟨fs, sp, cp, rs, t, hss, htt⟩ := h1
       have TT := hide t
       have SS := hide hss
       have ST := hide htt
       have FK := hide (dfork_calls t.disk (by omega))
       clear t b1 hss htt PC)
    | (go_at_call 31
       refine (unhide FK).mono ?_
       rintro e W2 ⟨d', M', fs', rfl, n2, hsp, b2⟩
       have N2 := hide n2
       have B2 := hide b2
       have SP := hide hsp
       have RK := hide (rfork_calls ((unhide TT).ref.later b2))
       clear n2 b2 hsp FK)
    | (go_at_call 32
       refine (unhide RK).mono ?_
       rintro e W3 ⟨R', sp', cq, rfl, r3, hR, hl, b3⟩
       have T3 := hide (show Two W1.heap.size [] W3 d' M' R' 3000 N ss ss from ⟨fs', sp', cq, rs, two_forked (unhide TT) (unhide N2) (unhide B2) r3 hR hl b3, (unhide SP).trans (unhide SS), unhide ST⟩)
       have B3 := hide ((unhide B2).trans (b3.mono (unhide B2).size))
       clear r3 hR hl b3 RK N2 B2 SP))
  go_loopw [10] (fun v wr => ∃ (j K : Nat) (s' : Ds), j ≤ n ∧ j ≤ 100 ∧ v = .int .i64 (j : Int) ∧ Hid (K ≤ 200 + j) ∧ Hid (Two W1.heap.size [] wr d' M' R' 3000 K s' s') ∧ Hid (Below W1.heap.size W1 wr)) (fun v _ => n - (intOf v).toNat)
  case atStart => exact ⟨0, N, ss, by omega, by omega, rfl, hide (by omega), T3, B3⟩
  case round =>
    obtain ⟨j, K, s', hj, hj100, rfl, HK, T, B⟩ := hrel
    clear T3 B3 TT SS ST
    have F := hide ((unhide F1).trans ((unhide B).mono (unhide F1).size))
    by_cases hjm : j < n ∧ j < 100
    · have y0 : (0 : Int) ≤ (j : Int) := by omega
      have y1 : (j : Int) < (n : Int) := by omega
      have y2 : (j : Int) < 100 := by omega
      have hjl : j < es'.length := by rw [unhide HN]; exact hjm.1
      obtain ⟨b, off, hh, rfl, cc, ha⟩ := (unhide HD).cell j hjl
      have LW := hide (fun W (hb : Below W1.heap.size W1 W) => (DeLow.of (ha.later (unhide F1))).below hb)
      have CW := hide (show ∀ W, Below w.heap.size w W → deCells es'[j] hh W b (off + j * 6) from fun W hb => by
        obtain ⟨h1, h2, h3, h4, h5, h6⟩ := cc
        exact ⟨cell_later hb h1, cell_later hb h2, cell_later hb h3, cell_later hb h4, cell_later hb h5, cell_later hb h6⟩)
      clear cc ha
      generalize es'[j] = e at *
      have hN1 : K + 1 ≤ 300 := by have := unhide HK; omega
      obtain ⟨q0, q1, q2, q3, q4, q5⟩ := unhide CW wr (unhide F)
      have SC := hide (short_calls e hh wr)
      unfold deVal at SC
      have DC := hide (fun W (hb : Below W1.heap.size W1 W) (hT : Two W1.heap.size [] W d' M' R' 3000 K s' s') (hs : e.short = true) => do_calls hT hN1 e hh (unhide LW W hb) hs)
      unfold deVal at DC
      cases hsh : e.short with
      | false =>
        rw [hsh] at SC
        go_wp2_with (go_at_call 14; refine (unhide SC).mono ?_; rintro r V1 ⟨rfl, b1⟩; have T4 := hide ((unhide T).later b1); have B4 := hide ((unhide B).trans (b1.mono (unhide B).size)); clear b1)
        exact ⟨⟨j + 1, K, s', by omega, by omega, by go_num, hide (Nat.le_succ_of_le (unhide HK)), T4, B4⟩, by simp [intOf]; omega⟩
      | true =>
        rw [hsh] at SC
        go_wp2_with (first
          | (go_at_call 14
             refine (unhide SC).mono ?_
             rintro r V1 ⟨rfl, b1⟩
             have T4 := hide ((unhide T).later b1)
             have B4 := hide ((unhide B).trans (b1.mono (unhide B).size))
             have F4 := hide ((unhide F).trans (b1.mono (unhide F).size))
             obtain ⟨p0, p1, p2, p3, p4, p5⟩ := unhide CW V1 (unhide F4)
             have D1 := hide (unhide DC V1 (unhide B4) (unhide T4) hsh)
             clear b1)
          | (go_at_call 15
             refine (unhide D1).mono ?_
             rintro r V2 ⟨rfl, h2, k2⟩
             have T5 := hide h2
             have B5 := hide ((unhide B4).trans k2.below)
             clear h2 k2))
        exact ⟨⟨j + 1, K + 1, dDo 3000 e s', by omega, by omega, by go_num, hide (Nat.succ_le_succ (unhide HK)), T5, B5⟩, by simp [intOf]; omega⟩
    · have U := hide ((unhide T1).later (unhide B))
      by_cases hjn : j < n
      · have y1 : (j : Int) < (n : Int) := by omega
        have y2 : ¬ (j : Int) < 100 := by omega
        go_wp2_with (first
          | (go_at_call 19; refine (live5_calls _).mono ?_; rintro r V1 ⟨rfl, b1⟩; have U1 := hide ((unhide U).later b1); have T4 := hide ((unhide T).later b1); have F4 := hide ((unhide F).trans (b1.mono (unhide F).size)); have SA := hide (same_calls (unhide U1)); clear b1)
          | (have hV : V2 = V2 := rfl
             clear hV
             go_at_call 16; refine (unhide SB).mono ?_; rintro r V3 ⟨rfl, b3⟩; have F6 := hide ((unhide F5).trans (b3.mono (unhide F5).size)); clear b3)
          | (go_at_call 16; refine (unhide SA).mono ?_; rintro r V2 ⟨rfl, b2⟩; have T5 := hide ((unhide T4).later b2); have F5 := hide ((unhide F4).trans (b2.mono (unhide F4).size)); have SB := hide (same_calls (unhide T5)); clear b2))
        go_ret
        exact ⟨rfl, unhide F6⟩
      · have y1 : ¬ (j : Int) < (n : Int) := by omega
        go_wp2_with (first
          | (go_at_call 19; refine (live5_calls _).mono ?_; rintro r V1 ⟨rfl, b1⟩; have U1 := hide ((unhide U).later b1); have T4 := hide ((unhide T).later b1); have F4 := hide ((unhide F).trans (b1.mono (unhide F).size)); have SA := hide (same_calls (unhide U1)); clear b1)
          | (have hV : V2 = V2 := rfl
             clear hV
             go_at_call 16; refine (unhide SB).mono ?_; rintro r V3 ⟨rfl, b3⟩; have F6 := hide ((unhide F5).trans (b3.mono (unhide F5).size)); clear b3)
          | (go_at_call 16; refine (unhide SA).mono ?_; rintro r V2 ⟨rfl, b2⟩; have T5 := hide ((unhide T4).later b2); have F5 := hide ((unhide F4).trans (b2.mono (unhide F4).size)); have SB := hide (same_calls (unhide T5)); clear b2))
        go_ret
        exact ⟨rfl, unhide F6⟩

set_option maxRecDepth 100000 in
theorem lifted (os : Os) (started : os.Started) (H : Type) (enc : TypeId × Value → H) :
    ReturnsInHanded {} Try.checked os 9 .any (Rows.diskForksSpec.pre6 enc Try.prog Try.f9 Rows.diskForksRow.domain false) (Rows.diskForksSpec.post enc Try.prog Try.f9 false true false false) := by
  refine returnsInHanded_of_change_sized (C := Try.checked) own started (by kernel_rfl) Try.func9
    (ChangeSpec.witness6 (enc := enc) (C := Try.checked) false ⟨#[], #[.slice none 0 0, .slice none 0 0], []⟩ 8 (by kernel_rfl) (by kernel_rfl) (by kernel_rfl) (by kernel_rfl)) ?_
  intro W base args ds gs before hval0 hW hcnd hsz _
  have hval : ∀ (j : Nat) t v, Try.f9.params[j]? = some t → args[j]? = some v → Value.okWide Try.prog W .any base t v := hval0
  have hW' := hW
  obtain ⟨p, q, hA0, hV, rfl, hfz, hnd⟩ := hW
  have hA : DataW.TrodAll enc Try.prog W 0 (fun _ => true) true Try.f9.params.toList args.toList ds p := hA0
  rw [Try.params9] at hA hval
  obtain ⟨v0, vs0, d0, ds0, p0, q0, hargs, rfl, rfl, h0, r0⟩ := trodAll_cons hA
  obtain ⟨v1, vs1, d1, ds1, p1, q1, rfl, rfl, rfl, h1, r1⟩ := trodAll_cons r0
  obtain ⟨rfl, rfl, rfl⟩ := trodAll_nil r1
  obtain rfl : args = #[v0, v1] := by cases args; simp_all
  obtain ⟨rfl, rfl⟩ := trodVars_none hV
  obtain ⟨a0, len0, c0, rfl⟩ := okWide_slice Try.underlying22 (hval 0 22 v0 rfl rfl)
  have k0 := h0
  have lt0 : ∀ x ∈ p0, x.block < W.heap.size := by obtain ⟨m, hm⟩ := k0; exact DataW.trod_lt m _ _ _ hm
  obtain ⟨l0, rfl, hx0, hb0⟩ := ddeeds_arg h0
  obtain ⟨a1, len1, c1, rfl⟩ := okWide_slice Try.underlying22 (hval 1 22 v1 rfl rfl)
  have k1 := h1
  have lt1 : ∀ x ∈ p1, x.block < W.heap.size := by obtain ⟨m, hm⟩ := k1; exact DataW.trod_lt m _ _ _ hm
  obtain ⟨l1, rfl, hx1, hb1⟩ := ddeeds_arg h1
  clear hA0 hval0
  refine (walk a0 c0 l0 a1 c1 l1 W hx0 hb0 hx1 hb1).mono fun e W' ⟨he, bel⟩ => ?_
  subst he
  exact ⟨_, rfl, _, _, _, [], _, [], hW', trodAll_mk1 (shut_bool Try.underlying4 _), (trodAll_cons_mk (Below.trod laidOut (by kernel_rfl) (of_decide_eq_true (by kernel_rfl)) k0 bel lt0) (trodAll_cons_mk (Below.trod laidOut (by kernel_rfl) (of_decide_eq_true (by kernel_rfl)) k1 bel lt1) trodAll_mk0)), rfl, bel.frame _, fun h => by cases h⟩

theorem proved : Rows.DiskForksSaid :=
  OpenClaim.holds_of_wide 9 Try.f9 rfl rfl rfl rfl rfl rfl rfl ⟨rfl, rfl, rfl, rfl, rfl⟩ rfl rfl rfl rfl rfl (by kernel_rfl) Try.func9 (by kernel_rfl)
    (of_decide_eq_true (by kernel_rfl)) (by unfold Func.isWrapper; first | (rw [if_pos (by decide +kernel)]; kernel_rfl) | (rw [if_neg (by decide +kernel)]; exact ⟨rfl, rfl⟩))
    (fun os started H enc _ => lifted os started H enc)
end Go.Proofs.Ytghdiemihceaoaa.diskForks
namespace Go.Proofs.Ytghdiemihceaoaa
theorem diskForks_holds : Rows.DiskForksSaid := diskForks.proved
#print axioms diskForks_holds
end Go.Proofs.Ytghdiemihceaoaa
