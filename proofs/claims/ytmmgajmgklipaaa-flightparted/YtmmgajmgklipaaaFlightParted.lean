/- Proved: on a parted link nothing is under way and nothing is sent, the other links stay, and healed it takes again; for all deeds and every link; no condition. -/
import Derived.Test.YtmmgajmgklipaaaPly
import Derived.Test.YtmmgajmgklipaaaFl12
namespace Go.Proofs.Ytmmgajmgklipaaa.flightParted
open Go.ChangeShapes Go.WideShapes Go.ChangeAt Go.RowKit
set_option linter.unusedVariables false

theorem own : ownKnob Try.prog.godebug = none := by kernel_rfl
theorem laidOut : laidOutB Try.prog = true := by kernel_rfl

theorem okN_of {base : Nat} {w : World} {N M R : Nat} {s r : FS} {Av : Nat → Prop} (h : Two base w N M R s r Av) : FOk s := by
  obtain ⟨n, sp, c, xs, sr, cr, zs, pa, kr, h⟩ := h
  exact h.okN
theorem RowQ.ofNil (base : Nat) (w : World) : RowQ base w none 0 [] := ⟨w.ownsRow_nil base 40 4, by simp⟩
theorem no_link {f t : Int} (h : isL f t = false) : f < 1 ∨ (¬ f < 1 ∧ 9 < f) ∨ (¬ f < 1 ∧ ¬ 9 < f ∧ t < 1) ∨ (¬ f < 1 ∧ ¬ 9 < f ∧ ¬ t < 1 ∧ 9 < t) ∨ (¬ f < 1 ∧ ¬ 9 < f ∧ ¬ t < 1 ∧ ¬ 9 < t ∧ f = t) := by
  simp only [isL, isN, Bool.and_eq_false_iff, decide_eq_false_iff_not, Bool.not_eq_false', decide_eq_true_eq] at h
  omega
theorem part_pk {s : FS} {f t : Int} (h : isL f t = true) : (partS s f t).pk = s.pk.filter (fun p => !ofLink f t p) ∧ (partS s f t).S f t = true := by
  unfold partS
  rw [if_pos h]
  exact ⟨rfl, by simp [parts]⟩
/-- On the parted link: no room, or gone. -/
theorem send_parted {s : FS} {f t : Int} (h : isL f t = true) (hS : s.S f t = true) : sendS s f t [] = s.old ∧ sendR s f t [] = (0, if 128 ≤ s.pk.length then 6 else 8) := by
  have e : sendX s.S s.pk.length f t ([] : List Nat).length = if 128 ≤ s.pk.length then 6 else 8 := by
    simp only [sendX, h, hS, List.length_nil]
    by_cases h1 : 128 ≤ s.pk.length
    · simp [h1]
    · simp [h1]
  have hne : ¬ sendX s.S s.pk.length f t ([] : List Nat).length = 0 := by rw [e]; split <;> decide
  unfold sendS sendR
  rw [if_neg hne, if_neg hne, e]
  exact ⟨rfl, rfl⟩
theorem heal_pk {s : FS} {f t : Int} (h : isL f t = true) : (healS s f t).pk = s.pk ∧ (healS s f t).S f t = false ∧ (healS s f t).age = s.age + 1 := by
  unfold healS
  rw [if_pos h]
  exact ⟨rfl, by simp [heals], rfl⟩
theorem send_healed {s : FS} {f t : Int} (h : isL f t = true) (hS : s.S f t = false) : (sendS s f t []).S f t = false ∧ sendR s f t [] = if 128 ≤ s.pk.length then (0, 6) else ((s.tot : Int) + 1, 0) := by
  have e : sendX s.S s.pk.length f t ([] : List Nat).length = if 128 ≤ s.pk.length then 6 else 0 := by
    simp only [sendX, h, hS, List.length_nil]
    by_cases h1 : 128 ≤ s.pk.length
    · simp [h1]
    · simp [h1]
  unfold sendS sendR
  rw [e]
  by_cases h1 : 128 ≤ s.pk.length
  · simp [h1, FS.old, hS]
  · simp [h1, FS.put, hS]
set_option maxRecDepth 20000 in
set_option maxHeartbeats 8000000 in
theorem walk (a : Option Addr) (c : Nat) (es : List DeedI) (f t : Int) (w : World) (hx : es.length ≤ maxLen) (hD : DeedsAt w a es) (hbd : ∀ e ∈ es, DeedBd e) (hf : -9223372036854775808 ≤ f ∧ f ≤ 9223372036854775807) (ht : -9223372036854775808 ≤ t ∧ t ≤ 9223372036854775807) :
    Calls Try.prog 6 #[.slice a es.length c, .int .i64 f, .int .i64 t] w fun e w' => e = .returned (.bool true) ∧ Below w.heap.size w w' := by
  have HF : Hid (In64 f) := hide hf
  have HT : Hid (In64 t) := hide ht
  go_enter Try.func6, Try.ntmps6
  go_wp2_with fail
  refine (play_calls a c es _ rfl hx hD hbd).mono ?_
  rintro e W1 ⟨N, M, R, s, rfl, ha, h1, b1⟩
  have T1 := hide h1
  have F1 := hide b1
  clear h1 b1 hD hbd hx
  go_wp2_with fail
  refine (two_under (unhide T1) (by omega)).mono ?_
  rintro e W2 ⟨us, uc, ys, rfl, hys, hQ, b2⟩
  have T2 := hide ((unhide T1).avoid b2 (blk us) (fun g hg => ⟨(hQ.toQ.blk_is g hg).1, (hQ.toQ.blk_is g hg).2.1⟩))
  have F2 := hide ((unhide F1).trans (b2.mono (unhide F1).size))
  have NY := hide hys
  have NQ := hide hQ.toQ
  clear b2 hys hQ T1 F1
  have few := (unhide T2).few
  have hL := hide (show ys.length = s.pk.length by have := congrArg List.length (unhide NY); simpa using this)
  have A1 := hide (show ∀ g, blk us = some g → (fun g => False ∨ blk us = some g) g from fun g hg => .inr hg)
  generalize (fun g => False ∨ blk us = some g) = Av at *
  go_wp2_with fail
  refine (two_part (unhide T2) (by omega) f t (unhide HF) (unhide HT)).mono ?_
  rintro e W3 ⟨rfl, h3, g3⟩
  have T3 := hide h3
  have Q3 := hide ((unhide NQ).steps g3 (unhide A1) (by decide))
  have F3 := hide ((unhide F2).trans g3.bel)
  clear h3 g3 T2 NQ F2
  cases hLk : isL f t
  · have e1 : linkR f t = 2 := by unfold linkR; rw [hLk]; rfl
    have e2 : partS s f t = s.old := by unfold partS; rw [hLk]; rfl
    rw [e1]
    rw [e2] at T3
    go_wp2_with fail
    refine (live4_calls _).mono ?_
    rintro e W4 ⟨rfl, b4⟩
    have T4 := hide ((unhide T3).later b4)
    have Q4 := hide ((unhide Q3).later b4)
    have F4 := hide ((unhide F3).trans (b4.mono (unhide F3).size))
    clear b4 T3 Q3 F3
    rcases no_link hLk with z1 | ⟨z1, z2⟩ | ⟨z1, z2, z3⟩ | ⟨z1, z2, z3, z4⟩ | ⟨z1, z2, z3, z4, z5⟩
    all_goals
      go_wp2_with fail
      refine (two_under (unhide T4) (by simp only [FS.old]; omega)).mono ?_
      rintro e W5 ⟨us5, uc5, ys5, rfl, hys5, hQ5, b5⟩
      have Q5 := hide ((unhide Q4).later b5)
      have F5 := hide ((unhide F4).trans (b5.mono (unhide F4).size))
      have R5 := hide hQ5.toQ
      have Y5 := hide (show ys5.map (·.1) = ys.map (·.1) from hys5.trans (unhide NY).symm)
      have L5 := hide (show ys5.length = s.pk.length by have := congrArg List.length (unhide Y5); simp only [List.length_map] at this; rw [this]; exact unhide hL)
      clear b5 hys5 hQ5
      go_wp2_with fail
      refine (samePackets_yes (unhide R5) (unhide Q5) s.pk.length (unhide L5) (by omega) (unhide Y5)).mono ?_
      rintro e W6 ⟨rfl, b6⟩
      have F6 := hide ((unhide F5).trans (b6.mono (unhide F5).size))
      clear b6
      go_wp2
      go_ret
      exact ⟨rfl, unhide F6⟩
  · have e1 : linkR f t = 0 := by unfold linkR; rw [hLk]; rfl
    rw [e1]
    obtain ⟨e2, e3⟩ := part_pk (s := s) hLk
    have E2 := hide e2
    have E3 := hide e3
    have A3 := hide (show (partS s f t).age ≤ 401 by unfold partS; rw [if_pos hLk]; simp only [FS.without]; omega)
    clear e1 e2 e3
    generalize partS s f t = s3 at *
    generalize hLe : s.pk.length = L at *
    go_wp2_with fail
    go_loopw [12, 13] (fun v i wr => ∃ (j m : Nat) (sp' : Option Addr) (c' : Nat), j ≤ L ∧ v = .slice sp' m c' ∧ i = .int .i64 (j : Int) ∧ Hid ((keep (ofLink f t) (ys.take j)).length = m) ∧ Hid (RowQ W3.heap.size wr sp' c' (keep (ofLink f t) (ys.take j))) ∧ Hid (Below W3.heap.size W3 wr)) (fun _ i _ => L - (intOf i).toNat)
    case atStart => exact ⟨0, 0, none, 0, by omega, rfl, rfl, rfl, RowQ.ofNil _ _, Below.refl _ _⟩
    case round =>
      obtain ⟨j, m, sp', c', hj, rfl, rfl, hm, Q, F⟩ := hrel
      by_cases hjL : j < L
      · have hjy : j < ys.length := by rw [unhide hL]; exact hjL
        have RQ := hide ((unhide Q3).later (unhide F))
        obtain ⟨g, rfl, p0, p1, p2, p3⟩ := (unhide RQ).cell j hjy
        have hj0 : (0 : Int) ≤ (j : Int) := by omega
        have hj1 : (j : Int) < (L : Int) := by omega
        have DB := hide ((unhide RQ).dat ys[j] (List.getElem_mem hjy))
        have hml : m ≤ 128 := by have := keep_len (ofLink f t) (ys.take j); rw [unhide hm, List.length_take] at this; omega
        have KY := hide (fun h => keep_yes (pick := ofLink f t) j hjy h)
        have KN := hide (fun h => keep_no (pick := ofLink f t) j hjy h)
        generalize ys[j] = x at *
        obtain ⟨⟨id, f', t', l⟩, dp, dc⟩ := x
        simp only at p0 p1 p2 p3 DB KY KN
        by_cases hpk : f' = f ∧ t' = t
        · obtain ⟨rfl, rfl⟩ := hpk
          have hK := unhide KY (by simp [ofLink])
          have Q5 := hide (show RowQ W3.heap.size wr sp' c' (keep (ofLink f' t') (ys.take (j + 1))) by rw [hK]; exact unhide Q)
          have M5 := hide (show (keep (ofLink f' t') (ys.take (j + 1))).length = m by rw [hK]; exact unhide hm)
          clear hK
          go_wp2
          exact ⟨⟨j + 1, m, sp', c', by omega, rfl, by go_num, unhide M5, unhide Q5, unhide F⟩, by simp [intOf]; omega⟩
        · have hK := unhide KN (by simp only [ofLink, Bool.and_eq_false_iff, decide_eq_false_iff_not]; omega)
          have hKh := hide hK
          clear hK KY KN
          have XA := hide (heap_new wr (.cells #[.int .i64 id, .int .i64 f', .int .i64 t', .slice dp l.length dc] 40))
          have bA := hide (show Below wr.heap.size wr (wr.alloc (.cells #[.int .i64 id, .int .i64 f', .int .i64 t', .slice dp l.length dc] 40)) from (Below.refl _ _).alloc (Nat.le_refl _) _)
          have hpk2 : f' = f → ¬ t' = t := fun h1 h2 => hpk ⟨h1, h2⟩
          by_cases hpf : f' = f
          · have hpt := hpk2 hpf
            subst hpf
            clear hpk hpk2
            go_wp2_with (at_builtin; refine unhide ?_)
            refine hide ?_
            refine wpList_appendQ rfl (.tmp 90) (.tmp 95) rfl W3.heap.size sp' m c' (keep (ofLink f' t) (ys.take j)) rfl (unhide hm) ((unhide Q).later (unhide bA)) wr.heap.size ((id, f', t', l), (dp, dc)) rfl (unhide XA) ((unhide DB).later (unhide bA)) (by rw [unhide hm]; omega) (Nat.le_trans (unhide F).size (unhide bA).size) ?_
            intro sp5 c5 W5 ho5 hg5 hl5
            have F4 := hide ((unhide F).trans ((unhide bA).mono (unhide F).size))
            have F5 := hide ((unhide F4).grown hg5 (unhide F4).size (fun g hg => ((unhide Q).blk_is g hg).1))
            have Q5 := hide (show RowQ W3.heap.size W5 sp5 c5 (keep (ofLink f' t) (ys.take (j + 1))) by rw [unhide hKh]; exact ho5)
            have M5 := hide (show (keep (ofLink f' t) (ys.take (j + 1))).length = m + 1 by rw [unhide hKh, List.length_append, unhide hm]; rfl)
            clear ho5 hg5 hl5
            go_wp2
            exact ⟨⟨j + 1, m + 1, sp5, c5, by omega, rfl, by go_num, unhide M5, unhide Q5, unhide F5⟩, by simp [intOf]; omega⟩
          · clear hpk hpk2
            go_wp2_with (at_builtin; refine unhide ?_)
            refine hide ?_
            refine wpList_appendQ rfl (.tmp 90) (.tmp 95) rfl W3.heap.size sp' m c' (keep (ofLink f t) (ys.take j)) rfl (unhide hm) ((unhide Q).later (unhide bA)) wr.heap.size ((id, f', t', l), (dp, dc)) rfl (unhide XA) ((unhide DB).later (unhide bA)) (by rw [unhide hm]; omega) (Nat.le_trans (unhide F).size (unhide bA).size) ?_
            intro sp5 c5 W5 ho5 hg5 hl5
            have F4 := hide ((unhide F).trans ((unhide bA).mono (unhide F).size))
            have F5 := hide ((unhide F4).grown hg5 (unhide F4).size (fun g hg => ((unhide Q).blk_is g hg).1))
            have Q5 := hide (show RowQ W3.heap.size W5 sp5 c5 (keep (ofLink f t) (ys.take (j + 1))) by rw [unhide hKh]; exact ho5)
            have M5 := hide (show (keep (ofLink f t) (ys.take (j + 1))).length = m + 1 by rw [unhide hKh, List.length_append, unhide hm]; rfl)
            clear ho5 hg5 hl5
            go_wp2
            exact ⟨⟨j + 1, m + 1, sp5, c5, by omega, rfl, by go_num, unhide M5, unhide Q5, unhide F5⟩, by simp [intOf]; omega⟩
      · obtain rfl : j = L := by omega
        rw [List.take_of_length_le (by rw [unhide hL]; exact Nat.le_refl _)] at hm Q
        have K := hide (show (keep (ofLink f t) ys).map (·.1) = s3.pk by rw [map_keep, unhide NY]; exact (unhide E2).symm)
        have hmm : m = s3.pk.length := by have := congrArg List.length (unhide K); simp only [List.length_map] at this; rw [← unhide hm]; exact this
        subst hmm
        have T4 := hide ((unhide T3).avoid (unhide F) (blk sp') (fun g hg => ⟨((unhide Q).blk_is g hg).1, ((unhide Q).blk_is g hg).2.1⟩))
        have F4 := hide ((unhide F3).trans ((unhide F).mono (unhide T3).base_le))
        have few3 := (okN_of (unhide T3)).full
        generalize keep (ofLink f t) ys = want at *
        clear T3 F3 Q3 F hLe hL NY few
        go_wp2_with fail
        refine (two_under (unhide T4) (by have := unhide A3; omega)).mono ?_
        rintro e W5 ⟨us5, uc5, ys5, rfl, hys5, hQ5, b5⟩
        have T5 := hide ((unhide T4).later b5)
        have Q5 := hide ((unhide Q).later b5)
        have F5 := hide ((unhide F4).trans (b5.mono (unhide F4).size))
        have R5 := hide hQ5.toQ
        have Y5 := hide (show ys5.map (·.1) = want.map (·.1) from hys5.trans (unhide K).symm)
        have L5 := hide (show ys5.length = s3.pk.length by have := congrArg List.length hys5; simpa using this)
        clear b5 hys5 hQ5 T4 Q F4
        go_wp2_with fail
        refine (samePackets_yes (unhide R5) (unhide Q5) s3.pk.length (unhide L5) (by omega) (unhide Y5)).mono ?_
        rintro e W6 ⟨rfl, b6⟩
        have T6 := hide ((unhide T5).later b6)
        have F6 := hide ((unhide F5).trans (b6.mono (unhide F5).size))
        clear b6 T5 F5 Q5 R5
        go_wp2_with fail
        refine (two_parted (unhide T6) f t (unhide HF) (unhide HT)).mono ?_
        rintro e W7 ⟨rfl, b7⟩
        have T7 := hide ((unhide T6).later b7)
        have F7 := hide ((unhide F6).trans (b7.mono (unhide F6).size))
        clear b7 T6 F6
        rw [unhide E3]
        go_wp2_with fail
        by_cases hfu : 128 ≤ s3.pk.length
        · have hfu' : (128 : Int) ≤ (s3.pk.length : Int) := by omega
          obtain ⟨x1, x2⟩ := send_parted hLk (unhide E3)
          rw [if_pos hfu] at x2
          refine (two_send (unhide T7) (by have := unhide A3; omega) f t (unhide HF) (unhide HT) none 0 0 [] rfl ⟨by simp, by simp⟩ (fun _ => rfl)).mono ?_
          rintro e W8 ⟨rfl, h8, g8⟩
          rw [x1] at h8
          rw [x2]
          have T8 := hide h8
          have F8 := hide ((unhide F7).trans g8.bel)
          clear h8 g8 T7 F7 x1 x2
          go_wp2_with fail
          refine (two_heal (unhide T8) f t (unhide HF) (unhide HT)).mono ?_
          rintro e W9 ⟨rfl, h9, g9⟩
          have e1 : linkR f t = 0 := by unfold linkR; rw [hLk]; rfl
          rw [e1]
          have T9 := hide h9
          have F9 := hide ((unhide F8).trans g9.bel)
          clear h9 g9 T8 F8 e1
          obtain ⟨y1, y2, y3⟩ := heal_pk (s := s3.old) hLk
          have y3' : (healS s3.old f t).age ≤ 900 := by rw [y3]; have := unhide A3; simp only [FS.old]; omega
          obtain ⟨z1, z2⟩ := send_healed (s := healS s3.old f t) hLk y2
          rw [y1] at z2
          have z2' : sendR (healS s3.old f t) f t [] = if 128 ≤ s3.pk.length then (0, 6) else (((healS s3.old f t).tot : Int) + 1, 0) := z2
          rw [if_pos hfu] at z2'
          clear y1 y2 y3 z2
          generalize healS s3.old f t = s9 at *
          go_wp2_with fail
          refine (two_send (unhide T9) y3' f t (unhide HF) (unhide HT) none 0 0 [] rfl ⟨by simp, by simp⟩ (fun _ => rfl)).mono ?_
          rintro e W10 ⟨rfl, h10, g10⟩
          rw [z2']
          have T10 := hide h10
          have F10 := hide ((unhide F9).trans g10.bel)
          have Z1 := hide z1
          clear h10 g10 T9 F9 z2' z1
          generalize sendS s9 f t [] = s10 at *
          go_wp2_with fail
          refine (live4_calls _).mono ?_
          rintro e W11 ⟨rfl, b11⟩
          have F11 := hide ((unhide F10).trans (b11.mono (unhide F10).size))
          clear b11 F10
          go_wp2
          go_ret
          exact ⟨by first | rfl | simp, unhide F11⟩
        · have hfu' : ¬ (128 : Int) ≤ (s3.pk.length : Int) := by omega
          obtain ⟨x1, x2⟩ := send_parted hLk (unhide E3)
          rw [if_neg hfu] at x2
          refine (two_send (unhide T7) (by have := unhide A3; omega) f t (unhide HF) (unhide HT) none 0 0 [] rfl ⟨by simp, by simp⟩ (fun _ => rfl)).mono ?_
          rintro e W8 ⟨rfl, h8, g8⟩
          rw [x1] at h8
          rw [x2]
          have T8 := hide h8
          have F8 := hide ((unhide F7).trans g8.bel)
          clear h8 g8 T7 F7 x1 x2
          go_wp2_with fail
          refine (two_heal (unhide T8) f t (unhide HF) (unhide HT)).mono ?_
          rintro e W9 ⟨rfl, h9, g9⟩
          have e1 : linkR f t = 0 := by unfold linkR; rw [hLk]; rfl
          rw [e1]
          have T9 := hide h9
          have F9 := hide ((unhide F8).trans g9.bel)
          clear h9 g9 T8 F8 e1
          obtain ⟨y1, y2, y3⟩ := heal_pk (s := s3.old) hLk
          have y3' : (healS s3.old f t).age ≤ 900 := by rw [y3]; have := unhide A3; simp only [FS.old]; omega
          obtain ⟨z1, z2⟩ := send_healed (s := healS s3.old f t) hLk y2
          rw [y1] at z2
          have z2' : sendR (healS s3.old f t) f t [] = if 128 ≤ s3.pk.length then (0, 6) else (((healS s3.old f t).tot : Int) + 1, 0) := z2
          rw [if_neg hfu] at z2'
          clear y1 y2 y3 z2
          generalize healS s3.old f t = s9 at *
          go_wp2_with fail
          refine (two_send (unhide T9) y3' f t (unhide HF) (unhide HT) none 0 0 [] rfl ⟨by simp, by simp⟩ (fun _ => rfl)).mono ?_
          rintro e W10 ⟨rfl, h10, g10⟩
          rw [z2']
          have T10 := hide h10
          have F10 := hide ((unhide F9).trans g10.bel)
          have Z1 := hide z1
          clear h10 g10 T9 F9 z2' z1
          generalize sendS s9 f t [] = s10 at *
          have htot : (0 : Int) < (s9.tot : Int) + 1 := by omega
          go_wp2_with fail
          refine (live4_calls _).mono ?_
          rintro e W11 ⟨rfl, b11⟩
          have T11 := hide ((unhide T10).later b11)
          have F11 := hide ((unhide F10).trans (b11.mono (unhide F10).size))
          clear b11 F10 T10
          go_wp2_with fail
          refine (two_parted (unhide T11) f t (unhide HF) (unhide HT)).mono ?_
          rintro e W12 ⟨rfl, b12⟩
          have F12 := hide ((unhide F11).trans (b12.mono (unhide F11).size))
          rw [unhide Z1]
          clear b12 F11
          go_wp2
          go_ret
          exact ⟨by first | rfl | simp, unhide F12⟩

set_option maxRecDepth 100000 in
theorem lifted (os : Os) (started : os.Started) (H : Type) (enc : TypeId × Value → H) :
    ReturnsInHanded {} Try.checked os 6 .any (Rows.flightPartedSpec.pre6 enc Try.prog Try.f6 Rows.flightPartedRow.domain false) (Rows.flightPartedSpec.post enc Try.prog Try.f6 false true false false) := by
  refine returnsInHanded_of_change_sized (C := Try.checked) own started (by kernel_rfl) Try.func6
    (ChangeSpec.witness6 (enc := enc) (C := Try.checked) false ⟨#[], #[.slice none 0 0, .int .i64 0, .int .i64 0], []⟩ 8 (by kernel_rfl) (by kernel_rfl) (by kernel_rfl) (by kernel_rfl)) ?_
  intro W base args ds gs before hval0 hW hcnd hsz _
  have hval : ∀ (j : Nat) t v, Try.f6.params[j]? = some t → args[j]? = some v → Value.okWide Try.prog W .any base t v := hval0
  have hW' := hW
  obtain ⟨p, q, hA0, hV, rfl, hfz, hnd⟩ := hW
  have hA : DataW.TrodAll enc Try.prog W 0 (fun _ => true) true Try.f6.params.toList args.toList ds p := hA0
  rw [Try.params6] at hA hval
  obtain ⟨v0, vs0, d0, ds0, p0, q0, hargs, rfl, rfl, h0, r0⟩ := trodAll_cons hA
  obtain ⟨v1, vs1, d1, ds1, p1, q1, rfl, rfl, rfl, h1, r1⟩ := trodAll_cons r0
  obtain ⟨v2, vs2, d2, ds2, p2, q2, rfl, rfl, rfl, h2, r2⟩ := trodAll_cons r1
  obtain ⟨rfl, rfl, rfl⟩ := trodAll_nil r2
  obtain rfl : args = #[v0, v1, v2] := by cases args; simp_all
  obtain ⟨rfl, rfl⟩ := trodVars_none hV
  obtain ⟨a0, len0, c0, rfl⟩ := okWide_slice Try.underlying22 (hval 0 22 v0 rfl rfl)
  have k0 := h0
  have lt0 : ∀ x ∈ p0, x.block < W.heap.size := by obtain ⟨m, hm⟩ := k0; exact DataW.trod_lt m _ _ _ hm
  obtain ⟨l0, rfl, hx0, hb0, hd0⟩ := deeds_arg h0
  obtain ⟨n1, rfl, rfl, rfl, w1⟩ := open_int Try.underlying3 (hval 1 3 v1 rfl rfl) h1
  have hn1 := i64_bounds w1
  obtain ⟨n2, rfl, rfl, rfl, w2⟩ := open_int Try.underlying3 (hval 2 3 v2 rfl rfl) h2
  have hn2 := i64_bounds w2
  clear hA0 hval0
  refine (walk a0 c0 l0 n1 n2 W hx0 hb0 hd0 hn1 hn2).mono fun e W' ⟨he, bel⟩ => ?_
  subst he
  exact ⟨_, rfl, _, _, _, [], _, [], hW', trodAll_mk1 (shut_bool Try.underlying4 _), (trodAll_cons_mk (Below.trod laidOut (by kernel_rfl) (of_decide_eq_true (by kernel_rfl)) k0 bel lt0) (trodAll_cons_mk (shut_int Try.underlying3 w1) (trodAll_cons_mk (shut_int Try.underlying3 w2) trodAll_mk0))), rfl, bel.frame _, fun h => by cases h⟩

theorem proved : Rows.FlightPartedSaid :=
  OpenClaim.holds_of_wide 6 Try.f6 rfl rfl rfl rfl rfl rfl rfl ⟨rfl, rfl, rfl, rfl, rfl⟩ rfl rfl rfl rfl rfl (by kernel_rfl) Try.func6 (by kernel_rfl)
    (of_decide_eq_true (by kernel_rfl)) (by unfold Func.isWrapper; first | (rw [if_pos (by decide +kernel)]; kernel_rfl) | (rw [if_neg (by decide +kernel)]; exact ⟨rfl, rfl⟩))
    (fun os started H enc _ => lifted os started H enc)
end Go.Proofs.Ytmmgajmgklipaaa.flightParted
namespace Go.Proofs.Ytmmgajmgklipaaa
theorem flightParted_holds : Rows.FlightPartedSaid := flightParted.proved
#print axioms flightParted_holds
end Go.Proofs.Ytmmgajmgklipaaa
