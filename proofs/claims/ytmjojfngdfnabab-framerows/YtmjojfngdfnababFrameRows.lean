/- Proved: rows that are framed one behind the other are read back, and what is torn behind them plays no part; for all rows (of up to 64), bytes and lengths; no condition. -/
import Derived.Test.YtmjojfngdfnababArg
import Derived.Test.YtmjojfngdfnababWnt
namespace Go.Proofs.Ytmjojfngdfnabab.frameRows
open Go.ChangeShapes Go.WideShapes Go.ChangeAt Go.RowKit
set_option linter.unusedVariables false

theorem own : ownKnob Try.prog.godebug = none := by kernel_rfl
theorem laidOut : laidOutB Try.prog = true := by kernel_rfl

theorem frame_any (a : Option Addr) (n c : Nat) (l : List Nat) (w : World) (hn : l.length = n) (hl : l.length ≤ maxLen) (hb : BytesAt w a l) :
    Calls Try.prog 9 #[.slice a n c] w fun e w' => Below w.heap.size w w' ∧ ((65536 < l.length ∧ e = .returned (.tuple #[.slice none 0 0, .int .i64 6])) ∨
      (l.length ≤ 65536 ∧ ∃ g, e = .returned (.tuple #[.slice (some ⟨g, 0, none⟩) (8 + n) (8 + n), .int .i64 0]) ∧ w.heap.size ≤ g ∧ w'.heap[g]? = some (.cells ((frameB l).map byteV).toArray 5 (0, 0)))) := by
  subst hn
  by_cases h : 65536 < l.length
  · refine (frame_long a c l w hl h).mono ?_
    rintro e w' ⟨rfl, rfl⟩
    exact ⟨Below.refl _ _, .inl ⟨h, rfl⟩⟩
  · refine (frame_ok a c l w hb (by omega)).mono ?_
    rintro e w' ⟨g, rfl, h1, h2, h3⟩
    exact ⟨h1, .inr ⟨by omega, g, rfl, h2, h3⟩⟩

set_option maxHeartbeats 2000000 in
theorem walk (a0 : Option Addr) (c0 : Nat) (l0 : List (List Nat)) (a1 : Option Addr) (c1 : Nat) (l1 : List Nat) (kk : Int) (w : World) (hx0 : l0.length ≤ maxLen) (hr0 : RowsAt w a0 l0) (hl0 : ∀ x ∈ l0, x.length ≤ maxLen)
    (hc1 : l1.length ≤ c1) (hm1 : c1 ≤ 140737488355328) (hb1 : BytesAt w a1 l1) (hz1 : a1 = none → c1 = 0) (hkk : -9223372036854775808 ≤ kk ∧ kk ≤ 9223372036854775807) :
    Calls Try.prog 6 #[.slice a0 l0.length c0, .slice a1 l1.length c1, .int .i64 kk] w fun e w' => e = .returned (.bool true) ∧ Below w.heap.size w w' := by
  unfold maxLen at hx0
  have HR := hide hr0
  have HL := hide hl0
  have HB1 := hide hb1
  have hl1 : l1.length ≤ 140737488355328 := by omega
  clear hr0 hl0 hb1 hz1 hkk hc1 hm1
  go_enter Try.func6, Try.ntmps6
  go_wp2
  go_loopw [7, 8, 9] (fun va vw i wr => ∃ (k : Nat) (hs : List (List Nat)) (sp : Option Addr) (n c : Nat), k ≤ 64 ∧ k ≤ l0.length ∧ i = .int .i64 (k : Int) ∧ va = .slice sp n c ∧ Hid ((cat hs).length = n) ∧ Hid (OwnB w.heap.size wr sp c (cat hs)) ∧ Hid (OwnW w.heap.size w wr vw hs) ∧ Hid (Below w.heap.size w wr) ∧ Hid (∀ h ∈ hs, h.length ≤ 65536) ∧ hs.length ≤ k ∧ n ≤ k * 65544) (fun _ _ i _ => 64 - (intOf i).toNat)
  case atStart => exact ⟨0, [], none, 0, 0, by omega, by omega, rfl, rfl, rfl, OwnB.ofNil _ _, OwnW.ofNil _ _ _, Below.refl _ _, by show ∀ h ∈ [], _; simp, by simp, by omega⟩
  case round =>
    obtain ⟨k, hs, sp, n, c, hk, hkl, rfl, rfl, hn, hoA, hoW, hbw, hsl, hlen, hnk⟩ := hrel
    by_cases hgo : k < l0.length ∧ k < 64
    · obtain ⟨g1, g2⟩ := hgo
      obtain ⟨b, off, p, pc, rfl, hcell, hbp⟩ := (unhide HR) k g1
      have hcr : wr.cell? ⟨b, off + k, none⟩ = some (.slice p (l0.getD k []).length pc) := cell_later (unhide hbw) hcell
      have HP0 := hide hbp
      have HPr := hide (hbp.later (unhide hbw))
      have hrl := hide (show (l0.getD k []).length ≤ maxLen from (unhide HL) _ (by rw [List.getD_eq_getElem?_getD, List.getElem?_eq_getElem g1]; exact List.getElem_mem g1))
      have hbig := (Below.size (unhide hbw))
      clear hcell hbp
      generalize l0.getD k [] = h at *
      have k0 : (0 : Int) ≤ (k : Int) := by omega
      have k1 : (k : Int) < (l0.length : Int) := by omega
      have k2 : (k : Int) < 64 := by omega
      go_wp2_with fail
      refine (frame_any _ _ _ h _ rfl (unhide hrl) (unhide HPr)).mono ?_
      rintro e W1 ⟨hb2, ⟨hlong, rfl⟩ | ⟨hshort, g, rfl, hg, hblk⟩⟩
      · have oA := hide ((unhide hoA).later hb2)
        have oW := hide ((unhide hoW).later hb2)
        have bw := hide ((unhide hbw).trans (hb2.mono hbig))
        have hn1 : n ≤ (k + 1) * 65544 := Nat.le_trans hnk (Nat.mul_le_mul_right _ (Nat.le_succ k))
        have hl1' : hs.length ≤ k + 1 := by omega
        go_wp2
        exact ⟨⟨k + 1, hs, sp, n, c, by omega, by omega, by go_num, rfl, unhide hn, unhide oA, unhide oW, unhide bw, unhide hsl, hl1', hn1⟩, by simp [intOf]; omega⟩
      · have oA := hide ((unhide hoA).later hb2)
        have oW := hide ((unhide hoW).later hb2)
        have bw := hide ((unhide hbw).trans (hb2.mono hbig))
        have hbase : w.heap.size ≤ W1.heap.size := (unhide bw).size
        have BF := hide (bytesAt_block hblk (frameB_lt (unhide HP0).lt hshort))
        have HLF := hide (frameB_length h)
        have hcr1 : W1.cell? ⟨b, off + k, none⟩ = some (.slice p h.length pc) := cell_later hb2 hcr
        have hblt : b < w.heap.size := by
          obtain ⟨b', off', p', pc', e1, e2, _⟩ := (unhide HR) k g1
          simp only [Option.some.injEq, Addr.mk.injEq, and_true] at e1
          have := World.block_lt_of_cell? _ _ e2
          simp only at this
          omega
        have r1 := hide (show (cat hs).length + (8 + h.length) ≤ 140737488355328 by rw [unhide hn]; omega)
        have r2 := hide (show hs.length ≤ 1099511627776 by omega)
        have hslt := hide (show ∀ x ∈ hs ++ [h], x.length ≤ 65536 by
          intro x hx
          rcases List.mem_append.1 hx with h3 | h3
          · exact (unhide hsl) x h3
          · simp only [List.mem_cons, List.not_mem_nil, or_false] at h3; subst h3; exact hshort)
        have hcat := hide (cat_snoc hs h)
        clear hblk hcr
        go_wp2_with (first
          | (at_builtin; refine wpList_append8 rfl (.tmp 37) (.tmp 38) rfl w.heap.size sp n c (cat hs) rfl (unhide hn) (by exact unhide oA) (some ⟨g, 0, none⟩) (8 + h.length) (8 + h.length) rfl (frameB h) (unhide HLF) (by exact unhide BF) (fun h => by cases h) (unhide r1) hbase ?_; intro sp2 n2 c2 W2 hn2 ho2 hg2 hb3; have oW2 := hide ((unhide oW).farB (unhide oA) hg2); have hcr2 : W2.cell? ⟨b, off + k, none⟩ = some (.slice p h.length pc) := (hb3.cell (p := ⟨b, off + k, none⟩) hblt).trans hcr1; have HO2 := hide ho2; clear hg2 ho2)
          | (at_builtin; refine wpList_appendW rfl (.tmp 40) (.tmp 45) rfl w.heap.size w u8 hs rfl ?ow W2.heap.size rfl p pc h ?cellB (unhide HP0) (unhide r2) ?hbase2 ?_; rotate_right; intro v3 W3 ho3 hkeep hb4))
        case ow => exact (unhide oW2).later ((Below.refl _ _).alloc (Nat.le_refl _) _)
        case cellB => exact World.cell?_alloc_new (w := W2) #[.slice p h.length pc] 22 0
        case hbase2 => exact Nat.le_trans hbase (Nat.le_trans hb3.size (by simp))
        have bA : Below W2.heap.size W2 (W2.alloc (.cells #[.slice p h.length pc] 22)) := (Below.refl _ _).alloc (Nat.le_refl _) _
        have hcl := unhide hcat
        have HO3 := hkeep _ _ _ ((unhide HO2).later bA)
        have hn2' := unhide hn2
        rw [← hcl] at HO3 hn2'
        have hw2 : w.heap.size ≤ W2.heap.size := Nat.le_trans hbase hb3.size
        have hbwn : Below w.heap.size w W3 := (((unhide bw).trans hb3).trans (bA.mono hw2)).trans hb4
        have hn2k : n2 ≤ (k + 1) * 65544 := by
          rw [← hn2', hcl, List.length_append, unhide hn, unhide HLF]; omega
        have hlen2 : (hs ++ [h]).length ≤ k + 1 := by rw [List.length_append]; simp; omega
        exact ⟨⟨k + 1, hs ++ [h], sp2, n2, c2, by omega, by omega, by go_num, rfl, hn2', HO3, ho3, hbwn, unhide hslt, hlen2, hn2k⟩, by simp [intOf]; omega⟩
    · have hcatk : (cat hs).length ≤ 4194816 := by rw [unhide hn]; omega
      have HBw := hide ((unhide HB1).later (unhide hbw))
      have hlt64 : hs.length ≤ 64 := by omega
      obtain ⟨spw, cw, rfl⟩ := (unhide hoW).form
      have hbig := (unhide hbw).size
      by_cases hkl2 : k < l0.length
      all_goals
        go_wp2_with fail
        refine (frame_any _ _ _ l1 _ rfl (by simp only [maxLen]; omega) (unhide HBw)).mono ?_
        rintro e W1 ⟨hb2, ⟨hlong, rfl⟩ | ⟨hshort, g, rfl, hg, hblk⟩⟩
        · have oA := hide ((unhide hoA).later hb2)
          have oW := hide ((unhide hoW).later hb2)
          have bw := hide ((unhide hbw).trans (hb2.mono hbig))
          obtain ⟨hst, hend⟩ := rows_cut hs [] (unhide hsl) rfl
          rw [List.append_nil] at hst hend
          have Hst := hide hst
          have Hend := hide hend
          have HC := hide hcatk
          clear hst hend hcatk
          go_wp2_with fail
          refine (all_known _ _ _ (cat hs) hs (cat hs).length _ (unhide hn) (Nat.le_trans (unhide HC) (by omega)) (unhide oA).cap.1 (unhide oA).bytes (unhide Hst) (unhide Hend)).mono ?_
          rintro e W2 ⟨sp2, c2, rfl, hb3, hoS⟩
          have R1 := hide hoS.rows
          have oW2 := hide ((unhide oW).later hb3)
          have bw2 := hide ((unhide bw).trans (hb3.mono (unhide bw).size))
          rw [unhide hn]
          clear hoS
          go_wp2_with fail
          refine (live_calls _).mono ?_
          rintro e W3 ⟨rfl, hb4⟩
          have R3 := hide ((unhide R1).later hb4)
          have bw3 := hide ((unhide bw2).trans (hb4.mono (unhide bw2).size))
          have Q3 := hide (((unhide oW2).later hb4).rows (unhide bw3))
          go_wp2_with fail
          refine (sameRows_calls _ _ _ _ hs _ (by simp only [maxLen]; omega) (unhide R3) (unhide Q3)).mono ?_
          rintro e W4 ⟨rfl, hb5⟩
          go_wp2
          go_ret
          exact ⟨rfl, (unhide bw3).trans (hb5.mono (unhide bw3).size)⟩
        · have oA := hide ((unhide hoA).later hb2)
          have oW := hide ((unhide hoW).later hb2)
          have bw := hide ((unhide hbw).trans (hb2.mono hbig))
          have hbase : w.heap.size ≤ W1.heap.size := (unhide bw).size
          have BF := hide (bytesAt_block hblk (frameB_lt (unhide HB1).lt hshort))
          obtain ⟨N, hN, hNl⟩ := rem_nat kk (8 + l1.length) (by omega) (by omega)
          have eM : ((8 + l1.length : Nat) : Int) = 8 + (l1.length : Int) := by omega
          rw [eM] at hN
          clear eM hblk
          have hs8 := run_slice_h8 (some ⟨g, 0, none⟩) (8 + l1.length) (8 + l1.length) N (by omega)
          have hLen := hide (show ((frameB l1).take N).length = N by rw [List.length_take, frameB_length]; omega)
          have B1 := hide ((unhide BF).head (8 + l1.length) N (by rw [frameB_length]; exact Nat.le_refl _))
          have hmin : ¬ 8 + (l1.length : Int) ≤ (N : Int) := by omega
          have hp0 : slp (some ⟨g, 0, none⟩) 0 (8 + l1.length) = none → 8 + l1.length = 0 := by unfold slp; split <;> simp
          have Hp0 := hide hp0
          obtain ⟨hst, hend⟩ := rows_cut hs ((frameB l1).take N) (unhide hsl) (cut_next l1 N hshort hNl)
          have Hst := hide hst
          have Hend := hide hend
          have HC := hide hcatk
          have r1 := hide (show (cat hs).length + N ≤ 140737488355328 by omega)
          clear hst hend hcatk hp0
          generalize slp (some ⟨g, 0, none⟩) 0 (8 + l1.length) = p at *
          generalize (frameB l1).take N = F at *
          have r2 := hide (show (cat hs ++ F).length ≤ 1099511627776 by rw [List.length_append, unhide hLen]; have := unhide HC; omega)
          go_wp2_with (at_builtin; refine wpList_append8 rfl (.tmp 56) (.tmp 69) rfl w.heap.size sp n c (cat hs) rfl (unhide hn) (by exact unhide oA) p N (8 + l1.length) rfl F (unhide hLen) (by exact unhide B1) (unhide Hp0) (unhide r1) hbase ?_; intro sp2 n2 c2 W2 hn2 ho2 hg2 hb3; have oW2 := hide ((unhide oW).farB (unhide oA) hg2); have HO2 := hide ho2; clear hg2 ho2)
          have bw2 := hide ((unhide bw).trans hb3)
          refine (all_known _ _ _ (cat hs ++ F) hs (cat hs).length _ (unhide hn2) (unhide r2) (unhide HO2).cap.1 (unhide HO2).bytes (unhide Hst) (unhide Hend)).mono ?_
          rintro e W3 ⟨sp3, c3, rfl, hb4, hoS⟩
          have R1 := hide hoS.rows
          have oW3 := hide ((unhide oW2).later hb4)
          have bw3 := hide ((unhide bw2).trans (hb4.mono (unhide bw2).size))
          rw [unhide hn]
          clear hoS
          go_wp2_with fail
          refine (live_calls _).mono ?_
          rintro e W4 ⟨rfl, hb5⟩
          have R4 := hide ((unhide R1).later hb5)
          have bw4 := hide ((unhide bw3).trans (hb5.mono (unhide bw3).size))
          have Q4 := hide (((unhide oW3).later hb5).rows (unhide bw4))
          go_wp2_with fail
          refine (sameRows_calls _ _ _ _ hs _ (by simp only [maxLen]; omega) (unhide R4) (unhide Q4)).mono ?_
          rintro e W5 ⟨rfl, hb6⟩
          go_wp2
          go_ret
          exact ⟨rfl, (unhide bw4).trans (hb6.mono (unhide bw4).size)⟩

set_option maxRecDepth 100000 in
theorem lifted (os : Os) (started : os.Started) (H : Type) (enc : TypeId × Value → H) :
    ReturnsInHanded {} Try.checked os 6 .any (Rows.frameRowsSpec.pre6 enc Try.prog Try.f6 Rows.frameRowsRow.domain false) (Rows.frameRowsSpec.post enc Try.prog Try.f6 false true false false) := by
  refine returnsInHanded_of_change_sized (C := Try.checked) own started (by kernel_rfl) Try.func6
    (ChangeSpec.witness6 (enc := enc) (C := Try.checked) false ⟨#[], #[.slice none 0 0, .slice none 0 0, .int .i64 0], []⟩ 8 (by kernel_rfl) (by kernel_rfl) (by kernel_rfl) (by kernel_rfl)) ?_
  intro W base args ds gs before hval0 hW hcnd hsz _
  have hval : ∀ (j : Nat) t v, Try.f6.params[j]? = some t → args[j]? = some v → Value.okWide Try.prog W .any base t v := hval0
  have hW' := hW
  obtain ⟨p, q, hA0, hV, rfl, hfz, hnd⟩ := hW
  have hA : DataW.TrodAll enc Try.prog W 0 (fun _ => true) true Try.f6.params.toList args.toList ds p := hA0
  rw [Try.params6] at hA hval
  obtain ⟨v0, vs0, d0, ds0, p0, q0, hargs, rfl, rfl, h0, r0⟩ := trodAll_cons hA
  obtain ⟨v1, vs1, d1, ds1, p1, q1, rfl, rfl, rfl, h1, r1⟩ := trodAll_cons r0
  obtain ⟨v2, vs2, d2, ds2, p2, q2, rfl, rfl, rfl, h2, r2⟩ := trodAll_cons r1
  obtain ⟨rfl, rfl, rfl⟩ := trodAll_nil r2
  obtain rfl : args = #[v0, v1, v2] := by cases args; simp_all
  obtain ⟨rfl, rfl⟩ := trodVars_none hV
  obtain ⟨a0, len0, c0, rfl⟩ := okWide_slice Try.underlying30 (hval 0 30 v0 rfl rfl)
  have k0 := h0
  have lt0 : ∀ x ∈ p0, x.block < W.heap.size := by obtain ⟨m, hm⟩ := k0; exact DataW.trod_lt m _ _ _ hm
  obtain ⟨l0, rfl, hx0, hr0, hl0⟩ := rows8 h0
  obtain ⟨a1, len1, c1, rfl⟩ := okWide_slice Try.underlying22 (hval 1 22 v1 rfl rfl)
  have k1 := h1
  have lt1 : ∀ x ∈ p1, x.block < W.heap.size := by obtain ⟨m, hm⟩ := k1; exact DataW.trod_lt m _ _ _ hm
  obtain ⟨l1, rfl, hc1, hx1, hb1, hz1, hr1⟩ := row8 h1
  obtain ⟨n2, rfl, rfl, rfl, w2⟩ := open_int Try.underlying3 (hval 2 3 v2 rfl rfl) h2
  have hn2 := i64_bounds w2
  clear hA0 hval0
  have hm1 : c1 ≤ 140737488355328 := reach8 hsz (j := 1) (d := d1) rfl rfl hr1
  refine (walk a0 c0 l0 a1 c1 l1 n2 W hx0 hr0 hl0 hc1 hm1 hb1 hz1 hn2).mono fun e W' ⟨he, bel⟩ => ?_
  subst he
  exact ⟨_, rfl, _, _, _, [], _, [], hW', trodAll_mk1 (shut_bool Try.underlying4 _), (trodAll_cons_mk (Below.trod laidOut (by kernel_rfl) (of_decide_eq_true (by kernel_rfl)) k0 bel lt0) (trodAll_cons_mk (Below.trod laidOut (by kernel_rfl) (of_decide_eq_true (by kernel_rfl)) k1 bel lt1) (trodAll_cons_mk (shut_int Try.underlying3 w2) trodAll_mk0))), rfl, bel.frame _, fun h => by cases h⟩

theorem proved : Rows.FrameRowsSaid :=
  OpenClaim.holds_of_wide 6 Try.f6 rfl rfl rfl rfl rfl rfl rfl ⟨rfl, rfl, rfl, rfl, rfl⟩ rfl rfl rfl rfl rfl (by kernel_rfl) Try.func6 (by kernel_rfl)
    (of_decide_eq_true (by kernel_rfl)) (by unfold Func.isWrapper; first | (rw [if_pos (by decide +kernel)]; kernel_rfl) | (rw [if_neg (by decide +kernel)]; exact ⟨rfl, rfl⟩))
    (fun os started H enc _ => lifted os started H enc)
end Go.Proofs.Ytmjojfngdfnabab.frameRows
namespace Go.Proofs.Ytmjojfngdfnabab
theorem frameRows_holds : Rows.FrameRowsSaid := frameRows.proved
#print axioms frameRows_holds
end Go.Proofs.Ytmjojfngdfnabab
