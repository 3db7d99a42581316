/- Proved: messages that are put, framed and laid one behind the other are read back, up to where the bytes are torn; for all messages (the first 20 are taken) and every place; no condition. -/
import Derived.Test.YtilkginjppgcoaaThr
import Derived.Test.YtilkginjppgcoaaRgmsg
import Derived.Test.YtilkginjppgcoaaPutn
import Derived.Test.YtilkginjppgcoaaTmat
import Derived.Test.YtilkginjppgcoaaSames
import Derived.Test.YtilkginjppgcoaaArg
import Derived.Lib.SlBytesConst
import Derived.Deep.RegionHeld3
namespace Go.Proofs.Ytilkginjppgcoaa.topFramed
open Go.ChangeShapes Go.WideShapes Go.ChangeAt Go.RowKit
set_option linter.unusedVariables false

theorem own : ownKnob Try.prog.godebug = none := by kernel_rfl
theorem laidOut : laidOutB Try.prog = true := by kernel_rfl

theorem later_block {w w' : World} {j : Nat} {o : Obj} (hb : Below w.heap.size w w') (h : w.heap[j]? = some o) : w'.heap[j]? = some o := (hb.block j (Array.getElem?_eq_some_iff.1 h).1).trans h
theorem nilCap {base : Nat} {w : World} {sp : Option Addr} {c : Nat} {l : List Nat} (h : OwnB base w sp c l) : sp = none → c = 0 := by
  intro e
  subst e
  rcases h.owns.2 with ⟨hv, _⟩ | ⟨g, cap, cur, hv, _⟩
  · simp only [Value.slice.injEq] at hv; exact hv.2.2
  · cases hv
theorem msgB_len {kd fr to t ix lt cm hi ro ob : Nat} {es : List EntN} {d : List Nat} (h : MsgOk kd fr to t ix lt cm hi ro es d) : (msgB kd fr to t ix lt cm hi ro ob es d).length ≤ 1048576 := by
  have h1 := numsB_len [t, ix, lt, cm, hi, ro] (by have := h.ht; have := h.hix; have := h.hlt; have := h.hcm; have := h.hhi; have := h.hro; simp; omega)
  have h2 := entsB_len es h.hes
  have h3 := numB_six es.length (by have := h.hfew; omega)
  have h4 := numB_six d.length (by have := h.hd; omega)
  have h5 := h.hfew
  have h6 := h.hd
  simp only [msgB, headB, List.length_append, List.length_cons, List.length_nil] at h1 ⊢
  omega
theorem entsDrew {w : World} {a : Option Addr} {es : List EntI} (h : EntsAt w a es) : EntsAt w.drew a es :=
  ⟨fun i hi => by obtain ⟨b, off, dp, dc, h0, h1, h2, h3, h4, h5, h6⟩ := h.cell i hi; exact ⟨b, off, dp, dc, h0, h1, h2, h3, h4, h5.drew, h6⟩⟩
theorem crc_a : Crc.ext 0 [97] = 3904355907 := by decide +kernel
theorem got12 : wholeE [7, 1, 2, 0, 1, 0, 0, 0, 0, 0, 0, 0] (msgE [7, 1, 2, 0, 1, 0, 0, 0, 0, 0, 0, 0] 0) = .ok ⟨7, 1, 2, 0, 1, 0, 0, 0, 0, 0, [], []⟩ :=
  msg_got (kd := 7) (fr := 1) (to := 2) (t := 1) (ix := 0) (lt := 0) (cm := 0) (hi := 0) (ro := 0) (ob := 0) (es := []) (d := []) ⟨by omega, by omega, by omega, by omega, by omega, by omega, by omega, by omega, by omega, by simp, by simp, by simp⟩ (by omega)
theorem ob_eq (bo : Bool) : ((((if bo then 1 else 0 : Nat) : Nat) : Int) == 1) = bo := by cases bo <;> rfl
set_option maxRecDepth 20000 in
set_option maxHeartbeats 16000000 in
theorem walk (a : Option Addr) (c : Nat) (ms : List MI) (tn : Nat) (w : World) (hx : ms.length ≤ maxLen) (hb : MsgsAt w a ms) (htn : tn < 65536) :
    Calls Try.prog 4 #[.slice a ms.length c, .int .u16 (tn : Int)] w fun e w' => e = .returned (.bool true) ∧ Below w.heap.size w w' := by
  have HM := hide hb
  simp only [maxLen] at hx
  generalize hL : ms.length = L at *
  have HL := hide hL
  clear hb hL
  go_enter Try.func4, Try.ntmps4
  go_wp2_with fail
  go_loopw [5, 6, 7, 8] (fun va ve vp v wr => ∃ (j n K : Nat) (hs : List (List Nat)) (ps : List MI) (sb : Option Addr) (cb : Nat) (si : Option Addr) (ci : Nat) (sm : Option Addr) (cm : Nat), j ≤ L ∧ j ≤ 20 ∧ v = .int .i64 (j : Int) ∧ va = .slice sb n cb ∧ ve = .slice si K ci ∧ vp = .slice sm K cm ∧ Hid ((cat hs).length = n) ∧ Hid (hs.length = K) ∧ K ≤ j ∧ n ≤ j * 5008 ∧ Hid (Three w.heap.size wr sb cb (cat hs) si ci (endsL hs) sm cm ps) ∧ Hid (PutOk w hs ps) ∧ Hid (Below w.heap.size w wr)) (fun _ _ _ v _ => 20 - (intOf v).toNat)
  case atStart => exact ⟨0, 0, 0, [], [], none, 0, none, 0, none, 0, by omega, by omega, rfl, rfl, rfl, rfl, rfl, rfl, by omega, by omega, ⟨OwnB.ofNil _ _, OwnI.ofNil _ _, PutM.ofNil _ _⟩, PutOk.nil _, Below.refl _ _⟩
  case round =>
    obtain ⟨j, n, K, hs, ps, sb, cb, si, ci, sm, cm', hj, hj20, rfl, rfl, rfl, rfl, hn, hK, hKj, hnj, T, PO, F⟩ := hrel
    by_cases hgo : j < L ∧ j < 20
    · obtain ⟨g1, g2⟩ := hgo
      have hjm : j < ms.length := by rw [unhide HL]; exact g1
      obtain ⟨b, off, ha, q0, q1, q2, q3, q4, q5, q6, q7, q8, q9, q10, q11⟩ := (unhide HM).cells j hjm
      have MA := hide ((unhide HM).cell j hjm).2
      subst ha
      generalize ms[j]'hjm = m at *
      obtain ⟨kd, fr, to, t, ix, lt, cm, hi, ro, bo, ep, ec, es, dp, dc, dl⟩ := m
      simp only at q0 q1 q2 q3 q4 q5 q6 q7 q8 q9 q10 q11
      have p0 := cell_later (unhide F) q0
      have p1 := cell_later (unhide F) q1
      have p2 := cell_later (unhide F) q2
      have p3 := cell_later (unhide F) q3
      have p4 := cell_later (unhide F) q4
      have p5 := cell_later (unhide F) q5
      have p6 := cell_later (unhide F) q6
      have p7 := cell_later (unhide F) q7
      have p8 := cell_later (unhide F) q8
      have p9 := cell_later (unhide F) q9
      have p10 := cell_later (unhide F) q10
      have p11 := cell_later (unhide F) q11
      have k0 : (0 : Int) ≤ (j : Int) := by omega
      have k1 : (j : Int) < (L : Int) := by omega
      have k2 : (j : Int) < 20 := by omega
      have hel : es.length ≤ 9223372036854775807 := by have := (unhide MA).len; simp only [maxLen] at this; omega
      by_cases hmf : MayM kd fr to t ix lt cm hi ro es ∧ FitsM es dl.length
      · obtain ⟨kd', fr', to', t', ix', lt', cm2, hi', ro', es', ⟨rfl, rfl, rfl, rfl, rfl, rfl, rfl, rfl, rfl⟩, rfl, hok⟩ := msg_nat hmf.1 hmf.2
        have HOK := hide hok
        have hml := hide (msgB_len (ob := if bo then 1 else 0) hok)
        have HP := hide (show Puts ⟨kd', fr', to', t', ix', lt', cm2, hi', ro', bo, ep, ec, es'.map toI, dp, dc, dl⟩ (msgB kd' fr' to' t' ix' lt' cm2 hi' ro' (if bo then 1 else 0) es' dl) from ⟨kd', fr', to', t', ix', lt', cm2, hi', ro', es', ⟨rfl, rfl, rfl, rfl, rfl, rfl, rfl, rfl, rfl⟩, rfl, hok, rfl⟩)
        clear hok hmf
        go_wp2_with fail
        refine (putMsg_yes kd' fr' to' t' ix' lt' cm2 hi' ro' (if bo then 1 else 0) bo rfl ep _ ec dp _ dc es' dl _ (unhide HOK) rfl rfl ((unhide MA).ents.later (unhide F)) ((unhide MA).bytes.later (unhide F)) (unhide MA).nil).mono ?_
        rintro e W1 ⟨sp1, n1, c1, rfl, hn1, ho1, hb1⟩
        generalize msgB kd' fr' to' t' ix' lt' cm2 hi' ro' (if bo then 1 else 0) es' dl = h at *
        have HN1 := hide (unhide hn1)
        have O1 := hide ho1
        have T1 := hide ((unhide T).later hb1)
        have F1 := hide ((unhide F).trans (hb1.mono (unhide F).size))
        clear ho1 hb1 hn1 p0 p1 p2 p3 p4 p5 p6 p7 p8 p9 p10 p11
        by_cases h5 : n1 ≤ 5000
        · have h5' : ¬ (5000 : Int) < (n1 : Int) := by omega
          have hh5 := hide (show h.length ≤ 5000 by rw [unhide HN1]; exact h5)
          go_wp2_with fail
          refine (frame_any sp1 n1 c1 h _ (unhide HN1) (by have := unhide hh5; simp only [maxLen]; omega) (unhide O1).bytes).mono ?_
          rintro e W2 ⟨hb2, ⟨hlong, rfl⟩ | ⟨hshort, g, rfl, hg, hblk⟩⟩
          · have := unhide hh5; omega
          have T2 := hide ((unhide T1).later hb2)
          have F2 := hide ((unhide F1).trans (hb2.mono (unhide F1).size))
          have BF := hide (bytesAt_block hblk (frameB_lt (unhide O1).lt hshort))
          have HLF := hide (show (frameB h).length = 8 + n1 by rw [frameB_length, unhide HN1])
          have r1 := hide (show (cat hs).length + (8 + n1) ≤ 140737488355328 by rw [unhide hn]; omega)
          have hcat := hide (cat_snoc hs h)
          clear hb2 hblk hg
          have PL := hide (show ps.length = K by rw [← (unhide PO).len, unhide hK])
          go_wp2_with (first
            | (at_builtin; refine wpList_append8L rfl (.tmp 54) (.tmp 55) rfl w.heap.size sb n cb (cat hs) rfl (unhide hn) (by exact (unhide T2).b) (some ⟨g, 0, none⟩) (8 + n1) (8 + n1) rfl (frameB h) (unhide HLF) (by exact unhide BF) (fun h => by cases h) (unhide r1) (by exact (unhide F2).size) ?_
               intro sb3 n3 cb3 W3 hn3 ho3 hg3 hl3
               have T3 := hide ((unhide T2).putB ho3 hg3)
               have F3 := hide ((unhide F2).grown hg3 (unhide F2).size (fun x hx => ((unhide T2).b.isT x hx).1))
               have N3 := hide (unhide hn3)
               clear ho3 hg3 hl3 hn3
               rw [← unhide hcat] at N3 T3
               have b4 := hide (show Below W3.heap.size W3 (W3.alloc (.cells #[.int .i64 (n3 : Int)] 3)) from (Below.refl _ _).alloc (Nat.le_refl _) _)
               have T4 := hide ((unhide T3).later (unhide b4))
               have F4 := hide ((unhide F3).trans ((unhide b4).mono (unhide F3).size))
               have hn3b : n3 ≤ (j + 1) * 5008 := by
                 have := unhide N3
                 rw [unhide hcat, List.length_append, unhide hn, unhide HLF] at this
                 omega
               have I4 := hide (ints_one (heap_new W3 (.cells #[.int .i64 (n3 : Int)] 3)) ⟨by omega, by omega⟩)
               have EL := hide (show (endsL hs).length = K by rw [endsL_length, unhide hK])
               have ES := hide (show endsL hs ++ [(n3 : Int)] = endsL (hs ++ [h]) by rw [endsL_snoc, unhide N3]))
            | (at_builtin; refine wpList_appendI rfl (.tmp 57) (.tmp 60) rfl w.heap.size si K ci (endsL hs) rfl (unhide EL) (by exact (unhide T4).i) (some ⟨W3.heap.size, 0, none⟩) 1 1 rfl [(n3 : Int)] rfl (by exact unhide I4) (fun h => by cases h) (by have := unhide EL; omega) (by exact (unhide F4).size) ?_
               intro si5 k5 ci5 W5 hk5 ho5 hg5
               have T5 := hide ((unhide T4).putI ho5 hg5.grown)
               have F5 := hide ((unhide F4).grown hg5.grown (unhide F4).size (fun x hx => ((unhide T4).i.isT x hx).1))
               have K5 := hide (show k5 = K + 1 by rw [← unhide hk5, List.length_append, unhide EL]; rfl)
               clear ho5 hg5 hk5
               rw [unhide ES] at T5
               have p0 := cell_later (unhide F5) q0
               have p1 := cell_later (unhide F5) q1
               have p2 := cell_later (unhide F5) q2
               have p3 := cell_later (unhide F5) q3
               have p4 := cell_later (unhide F5) q4
               have p5 := cell_later (unhide F5) q5
               have p6 := cell_later (unhide F5) q6
               have p7 := cell_later (unhide F5) q7
               have p8 := cell_later (unhide F5) q8
               have p9 := cell_later (unhide F5) q9
               have p10 := cell_later (unhide F5) q10
               have p11 := cell_later (unhide F5) q11
               have b6 := hide (show Below W5.heap.size W5 (W5.alloc (.cells #[.int .i64 (kd' : Int), .int .i64 (fr' : Int), .int .i64 (to' : Int), .int .i64 (t' : Int), .int .i64 (ix' : Int), .int .i64 (lt' : Int), .int .i64 (cm2 : Int), .int .i64 (hi' : Int), .int .i64 (ro' : Int), .bool bo, .slice ep es'.length ec, .slice dp dl.length dc] 26)) from (Below.refl _ _).alloc (Nat.le_refl _) _)
               have X6 := hide (show (W5.alloc (.cells #[.int .i64 (kd' : Int), .int .i64 (fr' : Int), .int .i64 (to' : Int), .int .i64 (t' : Int), .int .i64 (ix' : Int), .int .i64 (lt' : Int), .int .i64 (cm2 : Int), .int .i64 (hi' : Int), .int .i64 (ro' : Int), .bool bo, .slice ep es'.length ec, .slice dp dl.length dc] 26)).heap[W5.heap.size]? = some (.cells (miV ⟨kd', fr', to', t', ix', lt', cm2, hi', ro', bo, ep, ec, es'.map toI, dp, dc, dl⟩).toArray 26 (0, 0)) from by rw [heap_new]; simp only [miV, List.length_map])
               have T6 := hide ((unhide T5).later (unhide b6))
               have F6 := hide ((unhide F5).trans ((unhide b6).mono (unhide F5).size)))
            | (at_builtin; refine wpList_appendM rfl (.tmp 62) (.tmp 67) rfl K rfl (unhide PL) (by exact (unhide T6).m) W5.heap.size ⟨kd', fr', to', t', ix', lt', cm2, hi', ro', bo, ep, ec, es'.map toI, dp, dc, dl⟩ rfl (by exact unhide X6) (by have := unhide PL; omega) (by exact (unhide F6).size) ?_
               intro sm7 cm7 W7 hp7 hg7
               have T7 := hide ((unhide T6).putM hp7 hg7)
               have F7 := hide ((unhide F6).grown hg7 (unhide F6).size (fun x hx => ((unhide T6).m.isMsgs x hx).1))
               clear hp7 hg7))
          have PO7 := hide ((unhide PO).snoc (unhide HP) (unhide MA) (unhide hh5))
          have K7 := hide (show (hs ++ [h]).length = K + 1 by rw [List.length_append, unhide hK]; rfl)
          have hk5 := unhide K5
          subst hk5
          exact ⟨⟨j + 1, n3, K + 1, hs ++ [h], _, sb3, cb3, si5, ci5, sm7, cm7, by omega, by omega, by go_num, rfl, rfl, rfl, unhide N3, unhide K7, by omega, hn3b, unhide T7, unhide PO7, unhide F7⟩, by simp [intOf]; omega⟩
        · have h5' : (5000 : Int) < (n1 : Int) := by omega
          go_wp2
          exact ⟨⟨j + 1, n, K, hs, ps, sb, cb, si, ci, sm, cm', by omega, by omega, by go_num, rfl, rfl, rfl, unhide hn, unhide hK, by omega, by omega, unhide T1, unhide PO, unhide F1⟩, by simp [intOf]; omega⟩
      · go_wp2_with fail
        refine (putMsg_bad kd fr to t ix lt cm hi ro bo ep _ ec dp _ dc es _ rfl hel ((unhide MA).ents.later (unhide F)) hmf).mono ?_
        rintro e W1 ⟨⟨x, hx, rfl⟩, hb1⟩
        have T1 := hide ((unhide T).later hb1)
        have F1 := hide ((unhide F).trans (hb1.mono (unhide F).size))
        clear hb1 hmf p0 p1 p2 p3 p4 p5 p6 p7 p8 p9 p10 p11
        rcases hx with rfl | rfl
        all_goals
          go_wp2
          exact ⟨⟨j + 1, n, K, hs, ps, sb, cb, si, ci, sm, cm', by omega, by omega, by go_num, rfl, rfl, rfl, unhide hn, unhide hK, by omega, by omega, unhide T1, unhide PO, unhide F1⟩, by simp [intOf]; omega⟩
    · have hgo2 : ¬ ((j : Int) < (L : Int)) ∨ ((j : Int) < (L : Int) ∧ ¬ ((j : Int) < 20)) := by omega
      clear hgo
      obtain ⟨N, hN⟩ : ∃ N : Nat, Hid (N = tn % (n + 1)) := ⟨_, rfl⟩
      have hNn : N ≤ n := by have := Nat.mod_lt tn (show 0 < n + 1 by omega); have := unhide hN; omega
      have hrem : Int.tmod (tn : Int) ((n : Int) + 1) = (N : Int) := by rw [unhide hN, show ((n : Int) + 1) = ((n + 1 : Nat) : Int) by omega, ← Int.ofNat_tmod]
      have hcb := (unhide T).b.cap.1
      rw [unhide hn] at hcb
      have hs8 := run_slice_h8 sb n cb N (by omega)
      have B1 := hide ((unhide T).b.bytes.head cb N (by rw [unhide hn]; exact hcb))
      have SM := hide (show ∀ h ∈ hs, h.length ≤ 65536 from fun h hh => by have := (unhide PO).small h hh; omega)
      obtain ⟨m, tl, hmK, hcut, hnt, hle, hgt⟩ := cut_at hs N (unhide SM) (by rw [unhide hn]; exact hNn)
      have hLT := hide (show ((cat hs).take N).length = N by rw [List.length_take, unhide hn]; omega)
      have RC := hide (rows_cut (hs.take m) tl (fun h hh => unhide SM h (List.mem_of_mem_take hh)) hnt)
      rw [← hcut] at RC
      have HLE := hide hle
      have HGT := hide hgt
      have hmK' : m ≤ K := by rw [← unhide hK]; exact hmK
      have hml := hide (show (hs.take m).length = m by rw [List.length_take]; omega)
      have ENDS := hide (show 0 < K → ∃ b off, si = some ⟨b, off, none⟩ ∧ ∀ k (hk : k < K) W, Below wr.heap.size wr W → W.cell? ⟨b, off + k, none⟩ = some (.int .i64 ((cat (hs.take (k + 1))).length : Int)) from fun hK0 => by
        have hl : (endsL hs).length = K := by rw [endsL_length, unhide hK]
        obtain ⟨b, off, e1, _⟩ := (unhide T).i.ints.cell 0 (by rw [hl]; exact hK0)
        refine ⟨b, off, e1, fun k hk W hW => ?_⟩
        obtain ⟨b2, off2, e2, e3⟩ := (unhide T).i.ints.cell k (by rw [hl]; exact hk)
        rw [e1] at e2
        simp only [Option.some.injEq, Addr.mk.injEq, and_true] at e2
        obtain ⟨rfl, rfl⟩ := e2
        rw [endsL_get] at e3
        exact cell_later hW e3)
      have hN40 : N ≤ 1099511627776 := by omega
      clear hcut hnt hle hgt hcb hmK
      generalize slp sb 0 cb = p at *
      generalize hE : (cat (hs.take m)).length = E at RC
      have HE := hide hE
      have hEn : E ≤ N ∧ E ≤ 1099511627776 := by
        by_cases h0 : m = 0
        · have := unhide HE; subst h0; simp [cat] at this; omega
        · have h1 := unhide HLE (m - 1) (by omega)
          rw [show m - 1 + 1 = m by omega, unhide HE] at h1
          omega
      clear hE
      rcases hgo2 with hgo2 | ⟨hgo2, hgo3⟩
      all_goals
        go_wp2_with fail
        refine (all_known p N cb ((cat hs).take N) (hs.take m) E _ (unhide hLT) (by rw [unhide hLT]; exact hN40) (by rw [unhide hLT]; have := (unhide T).b.cap.1; rw [unhide hn] at this; omega) (unhide B1) (unhide RC).1 (unhide RC).2).mono ?_
        rintro e W2 ⟨sp2, c2, rfl, hb2, hoS⟩
        have hml' := unhide hml
        rw [hml'] at hoS ⊢
        have OS := hide hoS
        have B2 := hide hb2
        clear hoS hb2 hml'
        go_wp2_with fail
        go_loopw [16] (fun v wr2 => ∃ (k : Nat), k ≤ m ∧ v = .int .i64 (k : Int) ∧ Hid (Below W2.heap.size W2 wr2)) (fun v _ => m - (intOf v).toNat)
        case atStart => exact ⟨0, by omega, rfl, Below.refl _ _⟩
        case round =>
          obtain ⟨k, hk, rfl, F2⟩ := hrel
          have B3 := hide ((unhide B2).trans ((unhide F2).mono (unhide B2).size))
          by_cases hkm : k < m
          · have hkK : k < K := by omega
            obtain ⟨b', off', hsi, hc⟩ := unhide ENDS (by omega)
            have e0 := hc k hkK _ (unhide B3)
            have h1 := unhide HLE k hkm
            subst hsi
            have k0 : (0 : Int) ≤ (k : Int) := by omega
            have k1 : (k : Int) < (K : Int) := by omega
            generalize (cat (hs.take (k + 1))).length = q at *
            have k2 : (q : Int) ≤ (N : Int) := by omega
            clear hc
            go_wp2
            exact ⟨⟨k + 1, by omega, by go_num, unhide F2⟩, by simp [intOf]; omega⟩
          · obtain rfl : k = m := by omega
            have cases4 : (K = 0 ∧ k = 0) ∨ (0 < K ∧ ((k < K ∧ k = 0) ∨ (k < K ∧ 0 < k) ∨ (k = K ∧ 0 < k))) := by omega
            rcases cases4 with ⟨hK0, hk0⟩ | ⟨hK0, ⟨hkK, hk0⟩ | ⟨hkK, hk0⟩ | ⟨hkK, hk0⟩⟩
            · have hE0 : E = 0 := by have := unhide HE; rw [hk0] at this; simp [cat] at this; omega
              subst hE0
              subst hk0
              have c1 : ¬ (0 : Int) < (K : Int) := by omega
              go_wp2_with fail
              go_loopw [17] (fun v wr3 => ∃ (q : Nat), q ≤ 0 ∧ v = .int .i64 (q : Int) ∧ Hid (Below W2.heap.size W2 wr3)) (fun v _ => 0 - (intOf v).toNat)
              case atStart => exact ⟨0, by omega, rfl, unhide F2⟩
              case round =>
                obtain ⟨q, hq, rfl, F3⟩ := hrel
                have B4 := hide ((unhide B2).trans ((unhide F3).mono (unhide B2).size))
                have F4 := hide ((unhide F).trans ((unhide B4).mono (unhide F).size))
                have hqq : ¬ ((q : Int) < 0) := by omega
                have bB := hide (show Below wr.heap.size wr (wr.alloc (.cells #[.int .u8 7, .int .u8 1, .int .u8 2, .int .u8 0, .int .u8 1, .int .u8 0, .int .u8 0, .int .u8 0, .int .u8 0, .int .u8 0, .int .u8 0, .int .u8 0] 5)) from (Below.refl _ _).alloc (Nat.le_refl _) _)
                have BB := hide (bytesAt_block (l := [7, 1, 2, 0, 1, 0, 0, 0, 0, 0, 0, 0]) (heap_new wr (.cells #[.int .u8 7, .int .u8 1, .int .u8 2, .int .u8 0, .int .u8 1, .int .u8 0, .int .u8 0, .int .u8 0, .int .u8 0, .int .u8 0, .int .u8 0, .int .u8 0] 5)) (by decide))
                have F5 := hide ((unhide F4).trans ((unhide bB).mono (unhide F4).size))
                go_wp2_with fail
                refine (getMsg_calls (some ⟨wr.heap.size, 0, none⟩) 12 12 [7, 1, 2, 0, 1, 0, 0, 0, 0, 0, 0, 0] _ rfl (by decide) (by decide) (fun h => by cases h) (unhide BB)).mono ?_
                rw [got12]
                rintro e W5 ⟨⟨v, rfl, ep5, en5, ec5, sp5, mm5, cc5, rfl, hen5, _, hmm5, _⟩, hb5⟩
                simp only [msgCells]
                have F6 := hide ((unhide F5).trans (hb5.mono (unhide F5).size))
                clear hb5
                have s6 : (W5.alloc (.cells #[.int .i64 7, .int .i64 1, .int .i64 2, .int .i64 1, .int .i64 0, .int .i64 0, .int .i64 0, .int .i64 0, .int .i64 0, .bool false, .slice ep5 en5 ec5, .slice sp5 mm5 cc5] 26)).heap.size = W5.heap.size + 1 := by simp
                have kc : (convert 24 24 (.slice (some ⟨W5.heap.size + 1, 0, none⟩) 1 1)).run Try.prog ((W5.alloc (.cells #[.int .i64 7, .int .i64 1, .int .i64 2, .int .i64 1, .int .i64 0, .int .i64 0, .int .i64 0, .int .i64 0, .int .i64 0, .bool false, .slice ep5 en5 ec5, .slice sp5 mm5 cc5] 26)).alloc (.cells #[.int .u8 97] 5)) = .ok (.slice (some ⟨W5.heap.size + 1, 0, none⟩) 1 1) ((W5.alloc (.cells #[.int .i64 7, .int .i64 1, .int .i64 2, .int .i64 1, .int .i64 0, .int .i64 0, .int .i64 0, .int .i64 0, .int .i64 0, .bool false, .slice ep5 en5 ec5, .slice sp5 mm5 cc5] 26)).alloc (.cells #[.int .u8 97] 5 (1, 2))) := s6 ▸ Lib.run_convert_bytes_const (P := Try.prog) (W5.alloc (.cells #[.int .i64 7, .int .i64 1, .int .i64 2, .int .i64 1, .int .i64 0, .int .i64 0, .int .i64 0, .int .i64 0, .int .i64 0, .bool false, .slice ep5 en5 ec5, .slice sp5 mm5 cc5] 26)) 24 5 #[.int .u8 97] 1 1 Try.underlying24 Try.underlying5
                have BA := hide (show BytesAt ((W5.alloc (.cells #[.int .i64 7, .int .i64 1, .int .i64 2, .int .i64 1, .int .i64 0, .int .i64 0, .int .i64 0, .int .i64 0, .int .i64 0, .bool false, .slice ep5 en5 ec5, .slice sp5 mm5 cc5] 26)).alloc (.cells #[.int .u8 97] 5 (1, 2))) (some ⟨W5.heap.size + 1, 0, none⟩) [97] from s6 ▸ bytesAt_block (l := [97]) (heap_new (W5.alloc (.cells #[.int .i64 7, .int .i64 1, .int .i64 2, .int .i64 1, .int .i64 0, .int .i64 0, .int .i64 0, .int .i64 0, .int .i64 0, .bool false, .slice ep5 en5 ec5, .slice sp5 mm5 cc5] 26)) (.cells #[.int .u8 97] 5 (1, 2))) (by decide))
                have bX : Below W5.heap.size W5 (W5.alloc (.cells #[.int .i64 7, .int .i64 1, .int .i64 2, .int .i64 1, .int .i64 0, .int .i64 0, .int .i64 0, .int .i64 0, .int .i64 0, .bool false, .slice ep5 en5 ec5, .slice sp5 mm5 cc5] 26)) := (Below.refl _ _).alloc (Nat.le_refl _) _
                have F7 := hide ((unhide F6).trans ((bX.alloc bX.size (.cells #[.int .u8 97] 5 (1, 2))).mono (unhide F6).size))
                clear s6 bX
                go_wp2_with fail
                refine (sum_calls' _ 1 1 [97] _ rfl (by decide) (unhide BA)).mono ?_
                rintro e W7 ⟨rfl, rfl⟩
                rw [crc_a]
                go_wp2
                go_ret
                exact ⟨rfl, unhide F7⟩
            · obtain ⟨b', off', hsi, hc⟩ := unhide ENDS hK0
              subst hsi
              subst hk0
              have e0 := hc 0 hkK _ (unhide B3)
              rw [Nat.add_zero] at e0
              have h1 := unhide HGT (by rw [unhide hK]; exact hkK)
              generalize (cat (hs.take (0 + 1))).length = q0 at e0 h1
              have hE0 : E = 0 := by have := unhide HE; simp [cat] at this; omega
              subst hE0
              have k1 : (0 : Int) < (K : Int) := by omega
              have k2 : ¬ (q0 : Int) ≤ (N : Int) := by omega
              go_wp2_with fail
              go_loopw [17] (fun v wr3 => ∃ (q : Nat), q ≤ 0 ∧ v = .int .i64 (q : Int) ∧ Hid (Below W2.heap.size W2 wr3)) (fun v _ => 0 - (intOf v).toNat)
              case atStart => exact ⟨0, by omega, rfl, unhide F2⟩
              case round =>
                obtain ⟨q, hq, rfl, F3⟩ := hrel
                have B4 := hide ((unhide B2).trans ((unhide F3).mono (unhide B2).size))
                have F4 := hide ((unhide F).trans ((unhide B4).mono (unhide F).size))
                have hqq : ¬ ((q : Int) < 0) := by omega
                have bB := hide (show Below wr.heap.size wr (wr.alloc (.cells #[.int .u8 7, .int .u8 1, .int .u8 2, .int .u8 0, .int .u8 1, .int .u8 0, .int .u8 0, .int .u8 0, .int .u8 0, .int .u8 0, .int .u8 0, .int .u8 0] 5)) from (Below.refl _ _).alloc (Nat.le_refl _) _)
                have BB := hide (bytesAt_block (l := [7, 1, 2, 0, 1, 0, 0, 0, 0, 0, 0, 0]) (heap_new wr (.cells #[.int .u8 7, .int .u8 1, .int .u8 2, .int .u8 0, .int .u8 1, .int .u8 0, .int .u8 0, .int .u8 0, .int .u8 0, .int .u8 0, .int .u8 0, .int .u8 0] 5)) (by decide))
                have F5 := hide ((unhide F4).trans ((unhide bB).mono (unhide F4).size))
                go_wp2_with fail
                refine (getMsg_calls (some ⟨wr.heap.size, 0, none⟩) 12 12 [7, 1, 2, 0, 1, 0, 0, 0, 0, 0, 0, 0] _ rfl (by decide) (by decide) (fun h => by cases h) (unhide BB)).mono ?_
                rw [got12]
                rintro e W5 ⟨⟨v, rfl, ep5, en5, ec5, sp5, mm5, cc5, rfl, hen5, _, hmm5, _⟩, hb5⟩
                simp only [msgCells]
                have F6 := hide ((unhide F5).trans (hb5.mono (unhide F5).size))
                clear hb5
                have s6 : (W5.alloc (.cells #[.int .i64 7, .int .i64 1, .int .i64 2, .int .i64 1, .int .i64 0, .int .i64 0, .int .i64 0, .int .i64 0, .int .i64 0, .bool false, .slice ep5 en5 ec5, .slice sp5 mm5 cc5] 26)).heap.size = W5.heap.size + 1 := by simp
                have kc : (convert 24 24 (.slice (some ⟨W5.heap.size + 1, 0, none⟩) 1 1)).run Try.prog ((W5.alloc (.cells #[.int .i64 7, .int .i64 1, .int .i64 2, .int .i64 1, .int .i64 0, .int .i64 0, .int .i64 0, .int .i64 0, .int .i64 0, .bool false, .slice ep5 en5 ec5, .slice sp5 mm5 cc5] 26)).alloc (.cells #[.int .u8 97] 5)) = .ok (.slice (some ⟨W5.heap.size + 1, 0, none⟩) 1 1) ((W5.alloc (.cells #[.int .i64 7, .int .i64 1, .int .i64 2, .int .i64 1, .int .i64 0, .int .i64 0, .int .i64 0, .int .i64 0, .int .i64 0, .bool false, .slice ep5 en5 ec5, .slice sp5 mm5 cc5] 26)).alloc (.cells #[.int .u8 97] 5 (1, 2))) := s6 ▸ Lib.run_convert_bytes_const (P := Try.prog) (W5.alloc (.cells #[.int .i64 7, .int .i64 1, .int .i64 2, .int .i64 1, .int .i64 0, .int .i64 0, .int .i64 0, .int .i64 0, .int .i64 0, .bool false, .slice ep5 en5 ec5, .slice sp5 mm5 cc5] 26)) 24 5 #[.int .u8 97] 1 1 Try.underlying24 Try.underlying5
                have BA := hide (show BytesAt ((W5.alloc (.cells #[.int .i64 7, .int .i64 1, .int .i64 2, .int .i64 1, .int .i64 0, .int .i64 0, .int .i64 0, .int .i64 0, .int .i64 0, .bool false, .slice ep5 en5 ec5, .slice sp5 mm5 cc5] 26)).alloc (.cells #[.int .u8 97] 5 (1, 2))) (some ⟨W5.heap.size + 1, 0, none⟩) [97] from s6 ▸ bytesAt_block (l := [97]) (heap_new (W5.alloc (.cells #[.int .i64 7, .int .i64 1, .int .i64 2, .int .i64 1, .int .i64 0, .int .i64 0, .int .i64 0, .int .i64 0, .int .i64 0, .bool false, .slice ep5 en5 ec5, .slice sp5 mm5 cc5] 26)) (.cells #[.int .u8 97] 5 (1, 2))) (by decide))
                have bX : Below W5.heap.size W5 (W5.alloc (.cells #[.int .i64 7, .int .i64 1, .int .i64 2, .int .i64 1, .int .i64 0, .int .i64 0, .int .i64 0, .int .i64 0, .int .i64 0, .bool false, .slice ep5 en5 ec5, .slice sp5 mm5 cc5] 26)) := (Below.refl _ _).alloc (Nat.le_refl _) _
                have F7 := hide ((unhide F6).trans ((bX.alloc bX.size (.cells #[.int .u8 97] 5 (1, 2))).mono (unhide F6).size))
                clear s6 bX
                go_wp2_with fail
                refine (sum_calls' _ 1 1 [97] _ rfl (by decide) (unhide BA)).mono ?_
                rintro e W7 ⟨rfl, rfl⟩
                rw [crc_a]
                go_wp2
                go_ret
                exact ⟨rfl, unhide F7⟩
            · obtain ⟨b', off', hsi, hc⟩ := unhide ENDS hK0
              subst hsi
              have e0 := hc k hkK _ (unhide B3)
              have h1 := unhide HGT (by rw [unhide hK]; exact hkK)
              generalize (cat (hs.take (k + 1))).length = q0 at e0 h1
              have e1 := hc (k - 1) (by omega) _ (unhide B3)
              rw [show k - 1 + 1 = k by omega, unhide HE] at e1
              have k0 : (0 : Int) ≤ (k : Int) := by omega
              have k1 : (k : Int) < (K : Int) := by omega
              have k2 : ¬ (q0 : Int) ≤ (N : Int) := by omega
              have c2 : (0 : Int) < (k : Int) := by omega
              have c3 : ¬ (k : Int) = 0 := by omega
              have c4 : (k : Int) - 1 = ((k - 1 : Nat) : Int) := by omega
              have c5 : (0 : Int) ≤ ((k - 1 : Nat) : Int) := by omega
              have c6 : ((k - 1 : Nat) : Int) < (K : Int) := by omega
              go_wp2_with fail
              go_loopw [17] (fun v wr3 => ∃ (q : Nat), q ≤ k ∧ v = .int .i64 (q : Int) ∧ Hid (Below W2.heap.size W2 wr3)) (fun v _ => k - (intOf v).toNat)
              case atStart => exact ⟨0, by omega, rfl, unhide F2⟩
              case round =>
                obtain ⟨q, hq, rfl, F3⟩ := hrel
                have B4 := hide ((unhide B2).trans ((unhide F3).mono (unhide B2).size))
                have F4 := hide ((unhide F).trans ((unhide B4).mono (unhide F).size))
                by_cases hqk : q < k
                · have hqh : q < hs.length := by rw [unhide hK]; omega
                  have hqp : q < ps.length := by rw [← (unhide PO).len]; exact hqh
                  obtain ⟨g3, pp, pc, hsp, p0, o3⟩ := ((unhide OS).later (unhide F3)).at q (by rw [unhide hml]; exact hqk)
                  have hget : (hs.take k).getD q [] = hs[q] := by rw [List.getD_eq_getElem?_getD, List.getElem?_take, if_pos hqk, List.getElem?_eq_getElem hqh]; rfl
                  rw [hget] at p0 o3
                  obtain ⟨g4, hsm, r0, r1, r2, r3, r4, r5, r6, r7, r8, r9, r10, r11⟩ := ((unhide T).later (unhide B4)).m.cells q hqp
                  obtain ⟨hputs, hmi⟩ := (unhide PO).ok q hqh hqp
                  subst hsp
                  subst hsm
                  generalize hs[q]'hqh = hh at *
                  generalize ps[q]'hqp = mm at *
                  obtain ⟨kd, fr, to, t, ix, lt, cm, hi, ro, bo, ep, ec, es, dp, dc, dl⟩ := mm
                  obtain ⟨kd', fr', to', t', ix', lt', cm2, hi', ro', es', heqs, hes, hok, hhh⟩ := hputs
                  simp only at heqs hes hok hhh r0 r1 r2 r3 r4 r5 r6 r7 r8 r9 r10 r11
                  obtain ⟨rfl, rfl, rfl, rfl, rfl, rfl, rfl, rfl, rfl⟩ := heqs
                  subst hes
                  have hgot := hide (show wholeE hh (msgE hh 0) = .ok ⟨kd', fr', to', if bo then 1 else 0, t', ix', lt', cm2, hi', ro', es', dl⟩ by rw [hhh]; exact msg_got hok (by cases bo <;> simp))
                  have hhl := hide (show hh.length ≤ 1048576 by rw [hhh]; exact msgB_len hok)
                  have hf8 := hok.hfew
                  have MI4 := hide (hmi.later (unhide F4))
                  have O3 := hide o3
                  rw [List.length_map] at r10
                  clear hhh hok hmi o3 hget
                  obtain ⟨nm, hnm⟩ : ∃ nm, Hid (hh.length = nm) := ⟨_, rfl⟩
                  rw [unhide hnm] at p0
                  have q0 : (0 : Int) ≤ (q : Int) := by omega
                  have q1 : (q : Int) < (k : Int) := by omega
                  have q2 : (q : Int) < (K : Int) := by omega
                  go_wp2_with fail
                  refine (getMsg_calls pp nm pc hh _ (unhide hnm) (Nat.le_trans (unhide hhl) (by omega)) (unhide O3).cap.1 (nilCap (unhide O3)) (unhide O3).bytes).mono ?_
                  rw [unhide hgot]
                  rintro e W5 ⟨⟨v5, rfl, ep5, en5, ec5, sp5, mm5, cc5, rfl, hen5, hoe5, hmm5, hod5⟩, hb5⟩
                  simp only [msgCells, ob_eq]
                  simp only at hen5 hmm5
                  have hen := unhide hen5
                  subst hen
                  have b6 : Below W5.heap.size W5 (W5.alloc (.cells #[.int .i64 (kd' : Int), .int .i64 (fr' : Int), .int .i64 (to' : Int), .int .i64 (t' : Int), .int .i64 (ix' : Int), .int .i64 (lt' : Int), .int .i64 (cm2 : Int), .int .i64 (hi' : Int), .int .i64 (ro' : Int), .bool bo, .slice ep5 es'.length ec5, .slice sp5 mm5 cc5] 26)) := (Below.refl _ _).alloc (Nat.le_refl _) _
                  have X6 := hide (heap_new W5 (.cells #[.int .i64 (kd' : Int), .int .i64 (fr' : Int), .int .i64 (to' : Int), .int .i64 (t' : Int), .int .i64 (ix' : Int), .int .i64 (lt' : Int), .int .i64 (cm2 : Int), .int .i64 (hi' : Int), .int .i64 (ro' : Int), .bool bo, .slice ep5 es'.length ec5, .slice sp5 mm5 cc5] 26))
                  have b56 := hb5.trans (b6.mono hb5.size)
                  have B56 := hide b56
                  have E6 := hide (hoe5.ents.later b6)
                  have D6 := hide (hod5.bytes.later b6)
                  have MI6 := hide ((unhide MI4).later b56)
                  have y0 := cell_later (unhide B56) r0
                  have y1 := cell_later (unhide B56) r1
                  have y2 := cell_later (unhide B56) r2
                  have y3 := cell_later (unhide B56) r3
                  have y4 := cell_later (unhide B56) r4
                  have y5 := cell_later (unhide B56) r5
                  have y6 := cell_later (unhide B56) r6
                  have y7 := cell_later (unhide B56) r7
                  have y8 := cell_later (unhide B56) r8
                  have y9 := cell_later (unhide B56) r9
                  have y10 := cell_later (unhide B56) r10
                  have y11 := cell_later (unhide B56) r11
                  clear hoe5 hod5 b6 hb5 b56 p0 r0 r1 r2 r3 r4 r5 r6 r7 r8 r9 r10 r11
                  go_wp2_with fail
                  generalize W5.heap.size = P at *
                  generalize W5.alloc (.cells #[.int .i64 (kd' : Int), .int .i64 (fr' : Int), .int .i64 (to' : Int), .int .i64 (t' : Int), .int .i64 (ix' : Int), .int .i64 (lt' : Int), .int .i64 (cm2 : Int), .int .i64 (hi' : Int), .int .i64 (ro' : Int), .bool bo, .slice ep5 es'.length ec5, .slice sp5 mm5 cc5] 26) = W6 at *
                  obtain ⟨x0, x1, x2, x3, x4, x5, x6, x7, x8, x9, x10, x11⟩ := twelve_cells (unhide X6)
                  go_region_held3 (fun w' => w'.cell? ⟨P, 0, none⟩ = some (.int .i64 (kd' : Int)) ∧ w'.cell? ⟨P, 1, none⟩ = some (.int .i64 (fr' : Int)) ∧ w'.cell? ⟨P, 2, none⟩ = some (.int .i64 (to' : Int)) ∧ w'.cell? ⟨P, 3, none⟩ = some (.int .i64 (t' : Int)) ∧ w'.cell? ⟨P, 4, none⟩ = some (.int .i64 (ix' : Int)) ∧ w'.cell? ⟨P, 5, none⟩ = some (.int .i64 (lt' : Int)) ∧ w'.cell? ⟨P, 6, none⟩ = some (.int .i64 (cm2 : Int)) ∧ w'.cell? ⟨P, 7, none⟩ = some (.int .i64 (hi' : Int)) ∧ w'.cell? ⟨P, 8, none⟩ = some (.int .i64 (ro' : Int)) ∧ w'.cell? ⟨P, 9, none⟩ = some (.bool bo) ∧ w'.cell? ⟨P, 10, none⟩ = some (.slice ep5 es'.length ec5) ∧ w'.cell? ⟨P, 11, none⟩ = some (.slice sp5 mm5 cc5) ∧ w'.cell? ⟨g4, q * 12, none⟩ = some (.int .i64 (kd' : Int)) ∧ w'.cell? ⟨g4, q * 12 + 1, none⟩ = some (.int .i64 (fr' : Int)) ∧ w'.cell? ⟨g4, q * 12 + 2, none⟩ = some (.int .i64 (to' : Int)) ∧ w'.cell? ⟨g4, q * 12 + 3, none⟩ = some (.int .i64 (t' : Int)) ∧ w'.cell? ⟨g4, q * 12 + 4, none⟩ = some (.int .i64 (ix' : Int)) ∧ w'.cell? ⟨g4, q * 12 + 5, none⟩ = some (.int .i64 (lt' : Int)) ∧ w'.cell? ⟨g4, q * 12 + 6, none⟩ = some (.int .i64 (cm2 : Int)) ∧ w'.cell? ⟨g4, q * 12 + 7, none⟩ = some (.int .i64 (hi' : Int)) ∧ w'.cell? ⟨g4, q * 12 + 8, none⟩ = some (.int .i64 (ro' : Int)) ∧ w'.cell? ⟨g4, q * 12 + 9, none⟩ = some (.bool bo) ∧ w'.cell? ⟨g4, q * 12 + 10, none⟩ = some (.slice ep es'.length ec) ∧ w'.cell? ⟨g4, q * 12 + 11, none⟩ = some (.slice dp dl.length dc))
                    (first
                      | exact ⟨x0, x1, x2, x3, x4, x5, x6, x7, x8, x9, x10, x11, y0, y1, y2, y3, y4, y5, y6, y7, y8, y9, y10, y11⟩
                      | exact ⟨cell_later hb1 x0, cell_later hb1 x1, cell_later hb1 x2, cell_later hb1 x3, cell_later hb1 x4, cell_later hb1 x5, cell_later hb1 x6, cell_later hb1 x7, cell_later hb1 x8, cell_later hb1 x9, cell_later hb1 x10, cell_later hb1 x11, cell_later hb1 y0, cell_later hb1 y1, cell_later hb1 y2, cell_later hb1 y3, cell_later hb1 y4, cell_later hb1 y5, cell_later hb1 y6, cell_later hb1 y7, cell_later hb1 y8, cell_later hb1 y9, cell_later hb1 y10, cell_later hb1 y11⟩)
                    (first
                      | (go_at_call 8; refine (sameMsg_yes kd' fr' to' t' ix' lt' cm2 hi' ro' bo ep5 ep es'.length ec5 ec sp5 dp mm5 dl.length cc5 dc (es'.map toI) dl _ (by simp) (by omega) (by first | exact unhide E6 | exact entsDrew (unhide E6)) (by first | exact (unhide MI6).ents | exact entsDrew (unhide MI6).ents) (unhide hmm5) rfl (by first | exact unhide D6 | exact (unhide D6).drew) (by first | exact (unhide MI6).bytes | exact (unhide MI6).bytes.drew)).mono ?_; rintro e W7 ⟨rfl, hb1⟩))
                  have b7 : Below W6.heap.size W6 W7 := ⟨hb1.os, hb1.tape, hb1.output, hb1.size, hb1.block⟩
                  have F7 := hide ((unhide F3).trans (((unhide B56).trans (b7.mono (unhide B56).size)).mono (unhide F3).size))
                  clear hb1 b7
                  go_wp2
                  exact ⟨⟨q + 1, by omega, by go_num, unhide F7⟩, by simp [intOf]; omega⟩
                · have hqq : ¬ ((q : Int) < (k : Int)) := by omega
                  have bB := hide (show Below wr.heap.size wr (wr.alloc (.cells #[.int .u8 7, .int .u8 1, .int .u8 2, .int .u8 0, .int .u8 1, .int .u8 0, .int .u8 0, .int .u8 0, .int .u8 0, .int .u8 0, .int .u8 0, .int .u8 0] 5)) from (Below.refl _ _).alloc (Nat.le_refl _) _)
                  have BB := hide (bytesAt_block (l := [7, 1, 2, 0, 1, 0, 0, 0, 0, 0, 0, 0]) (heap_new wr (.cells #[.int .u8 7, .int .u8 1, .int .u8 2, .int .u8 0, .int .u8 1, .int .u8 0, .int .u8 0, .int .u8 0, .int .u8 0, .int .u8 0, .int .u8 0, .int .u8 0] 5)) (by decide))
                  have F5 := hide ((unhide F4).trans ((unhide bB).mono (unhide F4).size))
                  go_wp2_with fail
                  refine (getMsg_calls (some ⟨wr.heap.size, 0, none⟩) 12 12 [7, 1, 2, 0, 1, 0, 0, 0, 0, 0, 0, 0] _ rfl (by decide) (by decide) (fun h => by cases h) (unhide BB)).mono ?_
                  rw [got12]
                  rintro e W5 ⟨⟨v, rfl, ep5, en5, ec5, sp5, mm5, cc5, rfl, hen5, _, hmm5, _⟩, hb5⟩
                  simp only [msgCells]
                  have F6 := hide ((unhide F5).trans (hb5.mono (unhide F5).size))
                  clear hb5
                  have s6 : (W5.alloc (.cells #[.int .i64 7, .int .i64 1, .int .i64 2, .int .i64 1, .int .i64 0, .int .i64 0, .int .i64 0, .int .i64 0, .int .i64 0, .bool false, .slice ep5 en5 ec5, .slice sp5 mm5 cc5] 26)).heap.size = W5.heap.size + 1 := by simp
                  have kc : (convert 24 24 (.slice (some ⟨W5.heap.size + 1, 0, none⟩) 1 1)).run Try.prog ((W5.alloc (.cells #[.int .i64 7, .int .i64 1, .int .i64 2, .int .i64 1, .int .i64 0, .int .i64 0, .int .i64 0, .int .i64 0, .int .i64 0, .bool false, .slice ep5 en5 ec5, .slice sp5 mm5 cc5] 26)).alloc (.cells #[.int .u8 97] 5)) = .ok (.slice (some ⟨W5.heap.size + 1, 0, none⟩) 1 1) ((W5.alloc (.cells #[.int .i64 7, .int .i64 1, .int .i64 2, .int .i64 1, .int .i64 0, .int .i64 0, .int .i64 0, .int .i64 0, .int .i64 0, .bool false, .slice ep5 en5 ec5, .slice sp5 mm5 cc5] 26)).alloc (.cells #[.int .u8 97] 5 (1, 2))) := s6 ▸ Lib.run_convert_bytes_const (P := Try.prog) (W5.alloc (.cells #[.int .i64 7, .int .i64 1, .int .i64 2, .int .i64 1, .int .i64 0, .int .i64 0, .int .i64 0, .int .i64 0, .int .i64 0, .bool false, .slice ep5 en5 ec5, .slice sp5 mm5 cc5] 26)) 24 5 #[.int .u8 97] 1 1 Try.underlying24 Try.underlying5
                  have BA := hide (show BytesAt ((W5.alloc (.cells #[.int .i64 7, .int .i64 1, .int .i64 2, .int .i64 1, .int .i64 0, .int .i64 0, .int .i64 0, .int .i64 0, .int .i64 0, .bool false, .slice ep5 en5 ec5, .slice sp5 mm5 cc5] 26)).alloc (.cells #[.int .u8 97] 5 (1, 2))) (some ⟨W5.heap.size + 1, 0, none⟩) [97] from s6 ▸ bytesAt_block (l := [97]) (heap_new (W5.alloc (.cells #[.int .i64 7, .int .i64 1, .int .i64 2, .int .i64 1, .int .i64 0, .int .i64 0, .int .i64 0, .int .i64 0, .int .i64 0, .bool false, .slice ep5 en5 ec5, .slice sp5 mm5 cc5] 26)) (.cells #[.int .u8 97] 5 (1, 2))) (by decide))
                  have bX : Below W5.heap.size W5 (W5.alloc (.cells #[.int .i64 7, .int .i64 1, .int .i64 2, .int .i64 1, .int .i64 0, .int .i64 0, .int .i64 0, .int .i64 0, .int .i64 0, .bool false, .slice ep5 en5 ec5, .slice sp5 mm5 cc5] 26)) := (Below.refl _ _).alloc (Nat.le_refl _) _
                  have F7 := hide ((unhide F6).trans ((bX.alloc bX.size (.cells #[.int .u8 97] 5 (1, 2))).mono (unhide F6).size))
                  clear s6 bX
                  go_wp2_with fail
                  refine (sum_calls' _ 1 1 [97] _ rfl (by decide) (unhide BA)).mono ?_
                  rintro e W7 ⟨rfl, rfl⟩
                  rw [crc_a]
                  go_wp2
                  go_ret
                  exact ⟨rfl, unhide F7⟩
            · obtain ⟨b', off', hsi, hc⟩ := unhide ENDS hK0
              subst hsi
              have e1 := hc (k - 1) (by omega) _ (unhide B3)
              rw [show k - 1 + 1 = k by omega, unhide HE] at e1
              have k0 : (0 : Int) ≤ (k : Int) := by omega
              have k1 : ¬ (k : Int) < (K : Int) := by omega
              have c2 : (0 : Int) < (k : Int) := by omega
              have c3 : ¬ (k : Int) = 0 := by omega
              have c4 : (k : Int) - 1 = ((k - 1 : Nat) : Int) := by omega
              have c5 : (0 : Int) ≤ ((k - 1 : Nat) : Int) := by omega
              have c6 : ((k - 1 : Nat) : Int) < (K : Int) := by omega
              clear hkK
              go_wp2_with fail
              go_loopw [17] (fun v wr3 => ∃ (q : Nat), q ≤ k ∧ v = .int .i64 (q : Int) ∧ Hid (Below W2.heap.size W2 wr3)) (fun v _ => k - (intOf v).toNat)
              case atStart => exact ⟨0, by omega, rfl, unhide F2⟩
              case round =>
                obtain ⟨q, hq, rfl, F3⟩ := hrel
                have B4 := hide ((unhide B2).trans ((unhide F3).mono (unhide B2).size))
                have F4 := hide ((unhide F).trans ((unhide B4).mono (unhide F).size))
                by_cases hqk : q < k
                · have hqh : q < hs.length := by rw [unhide hK]; omega
                  have hqp : q < ps.length := by rw [← (unhide PO).len]; exact hqh
                  obtain ⟨g3, pp, pc, hsp, p0, o3⟩ := ((unhide OS).later (unhide F3)).at q (by rw [unhide hml]; exact hqk)
                  have hget : (hs.take k).getD q [] = hs[q] := by rw [List.getD_eq_getElem?_getD, List.getElem?_take, if_pos hqk, List.getElem?_eq_getElem hqh]; rfl
                  rw [hget] at p0 o3
                  obtain ⟨g4, hsm, r0, r1, r2, r3, r4, r5, r6, r7, r8, r9, r10, r11⟩ := ((unhide T).later (unhide B4)).m.cells q hqp
                  obtain ⟨hputs, hmi⟩ := (unhide PO).ok q hqh hqp
                  subst hsp
                  subst hsm
                  generalize hs[q]'hqh = hh at *
                  generalize ps[q]'hqp = mm at *
                  obtain ⟨kd, fr, to, t, ix, lt, cm, hi, ro, bo, ep, ec, es, dp, dc, dl⟩ := mm
                  obtain ⟨kd', fr', to', t', ix', lt', cm2, hi', ro', es', heqs, hes, hok, hhh⟩ := hputs
                  simp only at heqs hes hok hhh r0 r1 r2 r3 r4 r5 r6 r7 r8 r9 r10 r11
                  obtain ⟨rfl, rfl, rfl, rfl, rfl, rfl, rfl, rfl, rfl⟩ := heqs
                  subst hes
                  have hgot := hide (show wholeE hh (msgE hh 0) = .ok ⟨kd', fr', to', if bo then 1 else 0, t', ix', lt', cm2, hi', ro', es', dl⟩ by rw [hhh]; exact msg_got hok (by cases bo <;> simp))
                  have hhl := hide (show hh.length ≤ 1048576 by rw [hhh]; exact msgB_len hok)
                  have hf8 := hok.hfew
                  have MI4 := hide (hmi.later (unhide F4))
                  have O3 := hide o3
                  rw [List.length_map] at r10
                  clear hhh hok hmi o3 hget
                  obtain ⟨nm, hnm⟩ : ∃ nm, Hid (hh.length = nm) := ⟨_, rfl⟩
                  rw [unhide hnm] at p0
                  have q0 : (0 : Int) ≤ (q : Int) := by omega
                  have q1 : (q : Int) < (k : Int) := by omega
                  have q2 : (q : Int) < (K : Int) := by omega
                  go_wp2_with fail
                  refine (getMsg_calls pp nm pc hh _ (unhide hnm) (Nat.le_trans (unhide hhl) (by omega)) (unhide O3).cap.1 (nilCap (unhide O3)) (unhide O3).bytes).mono ?_
                  rw [unhide hgot]
                  rintro e W5 ⟨⟨v5, rfl, ep5, en5, ec5, sp5, mm5, cc5, rfl, hen5, hoe5, hmm5, hod5⟩, hb5⟩
                  simp only [msgCells, ob_eq]
                  simp only at hen5 hmm5
                  have hen := unhide hen5
                  subst hen
                  have b6 : Below W5.heap.size W5 (W5.alloc (.cells #[.int .i64 (kd' : Int), .int .i64 (fr' : Int), .int .i64 (to' : Int), .int .i64 (t' : Int), .int .i64 (ix' : Int), .int .i64 (lt' : Int), .int .i64 (cm2 : Int), .int .i64 (hi' : Int), .int .i64 (ro' : Int), .bool bo, .slice ep5 es'.length ec5, .slice sp5 mm5 cc5] 26)) := (Below.refl _ _).alloc (Nat.le_refl _) _
                  have X6 := hide (heap_new W5 (.cells #[.int .i64 (kd' : Int), .int .i64 (fr' : Int), .int .i64 (to' : Int), .int .i64 (t' : Int), .int .i64 (ix' : Int), .int .i64 (lt' : Int), .int .i64 (cm2 : Int), .int .i64 (hi' : Int), .int .i64 (ro' : Int), .bool bo, .slice ep5 es'.length ec5, .slice sp5 mm5 cc5] 26))
                  have b56 := hb5.trans (b6.mono hb5.size)
                  have B56 := hide b56
                  have E6 := hide (hoe5.ents.later b6)
                  have D6 := hide (hod5.bytes.later b6)
                  have MI6 := hide ((unhide MI4).later b56)
                  have y0 := cell_later (unhide B56) r0
                  have y1 := cell_later (unhide B56) r1
                  have y2 := cell_later (unhide B56) r2
                  have y3 := cell_later (unhide B56) r3
                  have y4 := cell_later (unhide B56) r4
                  have y5 := cell_later (unhide B56) r5
                  have y6 := cell_later (unhide B56) r6
                  have y7 := cell_later (unhide B56) r7
                  have y8 := cell_later (unhide B56) r8
                  have y9 := cell_later (unhide B56) r9
                  have y10 := cell_later (unhide B56) r10
                  have y11 := cell_later (unhide B56) r11
                  clear hoe5 hod5 b6 hb5 b56 p0 r0 r1 r2 r3 r4 r5 r6 r7 r8 r9 r10 r11
                  go_wp2_with fail
                  generalize W5.heap.size = P at *
                  generalize W5.alloc (.cells #[.int .i64 (kd' : Int), .int .i64 (fr' : Int), .int .i64 (to' : Int), .int .i64 (t' : Int), .int .i64 (ix' : Int), .int .i64 (lt' : Int), .int .i64 (cm2 : Int), .int .i64 (hi' : Int), .int .i64 (ro' : Int), .bool bo, .slice ep5 es'.length ec5, .slice sp5 mm5 cc5] 26) = W6 at *
                  obtain ⟨x0, x1, x2, x3, x4, x5, x6, x7, x8, x9, x10, x11⟩ := twelve_cells (unhide X6)
                  go_region_held3 (fun w' => w'.cell? ⟨P, 0, none⟩ = some (.int .i64 (kd' : Int)) ∧ w'.cell? ⟨P, 1, none⟩ = some (.int .i64 (fr' : Int)) ∧ w'.cell? ⟨P, 2, none⟩ = some (.int .i64 (to' : Int)) ∧ w'.cell? ⟨P, 3, none⟩ = some (.int .i64 (t' : Int)) ∧ w'.cell? ⟨P, 4, none⟩ = some (.int .i64 (ix' : Int)) ∧ w'.cell? ⟨P, 5, none⟩ = some (.int .i64 (lt' : Int)) ∧ w'.cell? ⟨P, 6, none⟩ = some (.int .i64 (cm2 : Int)) ∧ w'.cell? ⟨P, 7, none⟩ = some (.int .i64 (hi' : Int)) ∧ w'.cell? ⟨P, 8, none⟩ = some (.int .i64 (ro' : Int)) ∧ w'.cell? ⟨P, 9, none⟩ = some (.bool bo) ∧ w'.cell? ⟨P, 10, none⟩ = some (.slice ep5 es'.length ec5) ∧ w'.cell? ⟨P, 11, none⟩ = some (.slice sp5 mm5 cc5) ∧ w'.cell? ⟨g4, q * 12, none⟩ = some (.int .i64 (kd' : Int)) ∧ w'.cell? ⟨g4, q * 12 + 1, none⟩ = some (.int .i64 (fr' : Int)) ∧ w'.cell? ⟨g4, q * 12 + 2, none⟩ = some (.int .i64 (to' : Int)) ∧ w'.cell? ⟨g4, q * 12 + 3, none⟩ = some (.int .i64 (t' : Int)) ∧ w'.cell? ⟨g4, q * 12 + 4, none⟩ = some (.int .i64 (ix' : Int)) ∧ w'.cell? ⟨g4, q * 12 + 5, none⟩ = some (.int .i64 (lt' : Int)) ∧ w'.cell? ⟨g4, q * 12 + 6, none⟩ = some (.int .i64 (cm2 : Int)) ∧ w'.cell? ⟨g4, q * 12 + 7, none⟩ = some (.int .i64 (hi' : Int)) ∧ w'.cell? ⟨g4, q * 12 + 8, none⟩ = some (.int .i64 (ro' : Int)) ∧ w'.cell? ⟨g4, q * 12 + 9, none⟩ = some (.bool bo) ∧ w'.cell? ⟨g4, q * 12 + 10, none⟩ = some (.slice ep es'.length ec) ∧ w'.cell? ⟨g4, q * 12 + 11, none⟩ = some (.slice dp dl.length dc))
                    (first
                      | exact ⟨x0, x1, x2, x3, x4, x5, x6, x7, x8, x9, x10, x11, y0, y1, y2, y3, y4, y5, y6, y7, y8, y9, y10, y11⟩
                      | exact ⟨cell_later hb1 x0, cell_later hb1 x1, cell_later hb1 x2, cell_later hb1 x3, cell_later hb1 x4, cell_later hb1 x5, cell_later hb1 x6, cell_later hb1 x7, cell_later hb1 x8, cell_later hb1 x9, cell_later hb1 x10, cell_later hb1 x11, cell_later hb1 y0, cell_later hb1 y1, cell_later hb1 y2, cell_later hb1 y3, cell_later hb1 y4, cell_later hb1 y5, cell_later hb1 y6, cell_later hb1 y7, cell_later hb1 y8, cell_later hb1 y9, cell_later hb1 y10, cell_later hb1 y11⟩)
                    (first
                      | (go_at_call 8; refine (sameMsg_yes kd' fr' to' t' ix' lt' cm2 hi' ro' bo ep5 ep es'.length ec5 ec sp5 dp mm5 dl.length cc5 dc (es'.map toI) dl _ (by simp) (by omega) (by first | exact unhide E6 | exact entsDrew (unhide E6)) (by first | exact (unhide MI6).ents | exact entsDrew (unhide MI6).ents) (unhide hmm5) rfl (by first | exact unhide D6 | exact (unhide D6).drew) (by first | exact (unhide MI6).bytes | exact (unhide MI6).bytes.drew)).mono ?_; rintro e W7 ⟨rfl, hb1⟩))
                  have b7 : Below W6.heap.size W6 W7 := ⟨hb1.os, hb1.tape, hb1.output, hb1.size, hb1.block⟩
                  have F7 := hide ((unhide F3).trans (((unhide B56).trans (b7.mono (unhide B56).size)).mono (unhide F3).size))
                  clear hb1 b7
                  go_wp2
                  exact ⟨⟨q + 1, by omega, by go_num, unhide F7⟩, by simp [intOf]; omega⟩
                · have hqq : ¬ ((q : Int) < (k : Int)) := by omega
                  have bB := hide (show Below wr.heap.size wr (wr.alloc (.cells #[.int .u8 7, .int .u8 1, .int .u8 2, .int .u8 0, .int .u8 1, .int .u8 0, .int .u8 0, .int .u8 0, .int .u8 0, .int .u8 0, .int .u8 0, .int .u8 0] 5)) from (Below.refl _ _).alloc (Nat.le_refl _) _)
                  have BB := hide (bytesAt_block (l := [7, 1, 2, 0, 1, 0, 0, 0, 0, 0, 0, 0]) (heap_new wr (.cells #[.int .u8 7, .int .u8 1, .int .u8 2, .int .u8 0, .int .u8 1, .int .u8 0, .int .u8 0, .int .u8 0, .int .u8 0, .int .u8 0, .int .u8 0, .int .u8 0] 5)) (by decide))
                  have F5 := hide ((unhide F4).trans ((unhide bB).mono (unhide F4).size))
                  go_wp2_with fail
                  refine (getMsg_calls (some ⟨wr.heap.size, 0, none⟩) 12 12 [7, 1, 2, 0, 1, 0, 0, 0, 0, 0, 0, 0] _ rfl (by decide) (by decide) (fun h => by cases h) (unhide BB)).mono ?_
                  rw [got12]
                  rintro e W5 ⟨⟨v, rfl, ep5, en5, ec5, sp5, mm5, cc5, rfl, hen5, _, hmm5, _⟩, hb5⟩
                  simp only [msgCells]
                  have F6 := hide ((unhide F5).trans (hb5.mono (unhide F5).size))
                  clear hb5
                  have s6 : (W5.alloc (.cells #[.int .i64 7, .int .i64 1, .int .i64 2, .int .i64 1, .int .i64 0, .int .i64 0, .int .i64 0, .int .i64 0, .int .i64 0, .bool false, .slice ep5 en5 ec5, .slice sp5 mm5 cc5] 26)).heap.size = W5.heap.size + 1 := by simp
                  have kc : (convert 24 24 (.slice (some ⟨W5.heap.size + 1, 0, none⟩) 1 1)).run Try.prog ((W5.alloc (.cells #[.int .i64 7, .int .i64 1, .int .i64 2, .int .i64 1, .int .i64 0, .int .i64 0, .int .i64 0, .int .i64 0, .int .i64 0, .bool false, .slice ep5 en5 ec5, .slice sp5 mm5 cc5] 26)).alloc (.cells #[.int .u8 97] 5)) = .ok (.slice (some ⟨W5.heap.size + 1, 0, none⟩) 1 1) ((W5.alloc (.cells #[.int .i64 7, .int .i64 1, .int .i64 2, .int .i64 1, .int .i64 0, .int .i64 0, .int .i64 0, .int .i64 0, .int .i64 0, .bool false, .slice ep5 en5 ec5, .slice sp5 mm5 cc5] 26)).alloc (.cells #[.int .u8 97] 5 (1, 2))) := s6 ▸ Lib.run_convert_bytes_const (P := Try.prog) (W5.alloc (.cells #[.int .i64 7, .int .i64 1, .int .i64 2, .int .i64 1, .int .i64 0, .int .i64 0, .int .i64 0, .int .i64 0, .int .i64 0, .bool false, .slice ep5 en5 ec5, .slice sp5 mm5 cc5] 26)) 24 5 #[.int .u8 97] 1 1 Try.underlying24 Try.underlying5
                  have BA := hide (show BytesAt ((W5.alloc (.cells #[.int .i64 7, .int .i64 1, .int .i64 2, .int .i64 1, .int .i64 0, .int .i64 0, .int .i64 0, .int .i64 0, .int .i64 0, .bool false, .slice ep5 en5 ec5, .slice sp5 mm5 cc5] 26)).alloc (.cells #[.int .u8 97] 5 (1, 2))) (some ⟨W5.heap.size + 1, 0, none⟩) [97] from s6 ▸ bytesAt_block (l := [97]) (heap_new (W5.alloc (.cells #[.int .i64 7, .int .i64 1, .int .i64 2, .int .i64 1, .int .i64 0, .int .i64 0, .int .i64 0, .int .i64 0, .int .i64 0, .bool false, .slice ep5 en5 ec5, .slice sp5 mm5 cc5] 26)) (.cells #[.int .u8 97] 5 (1, 2))) (by decide))
                  have bX : Below W5.heap.size W5 (W5.alloc (.cells #[.int .i64 7, .int .i64 1, .int .i64 2, .int .i64 1, .int .i64 0, .int .i64 0, .int .i64 0, .int .i64 0, .int .i64 0, .bool false, .slice ep5 en5 ec5, .slice sp5 mm5 cc5] 26)) := (Below.refl _ _).alloc (Nat.le_refl _) _
                  have F7 := hide ((unhide F6).trans ((bX.alloc bX.size (.cells #[.int .u8 97] 5 (1, 2))).mono (unhide F6).size))
                  clear s6 bX
                  go_wp2_with fail
                  refine (sum_calls' _ 1 1 [97] _ rfl (by decide) (unhide BA)).mono ?_
                  rintro e W7 ⟨rfl, rfl⟩
                  rw [crc_a]
                  go_wp2
                  go_ret
                  exact ⟨rfl, unhide F7⟩

set_option maxRecDepth 100000 in
theorem lifted (os : Os) (started : os.Started) (H : Type) (enc : TypeId × Value → H) :
    ReturnsInHanded {} Try.checked os 4 .any (Rows.topFramedSpec.pre6 enc Try.prog Try.f4 Rows.topFramedRow.domain false) (Rows.topFramedSpec.post enc Try.prog Try.f4 false true false false) := by
  refine returnsInHanded_of_change_sized (C := Try.checked) own started (by kernel_rfl) Try.func4
    (ChangeSpec.witness6 (enc := enc) (C := Try.checked) false ⟨#[], #[.slice none 0 0, .int .u16 0], []⟩ 8 (by kernel_rfl) (by kernel_rfl) (by kernel_rfl) (by kernel_rfl)) ?_
  intro W base args ds gs before hval0 hW hcnd hsz _
  have hval : ∀ (j : Nat) t v, Try.f4.params[j]? = some t → args[j]? = some v → Value.okWide Try.prog W .any base t v := hval0
  have hW' := hW
  obtain ⟨p, q, hA0, hV, rfl, hfz, hnd⟩ := hW
  have hA : DataW.TrodAll enc Try.prog W 0 (fun _ => true) true Try.f4.params.toList args.toList ds p := hA0
  rw [Try.params4] at hA hval
  obtain ⟨v0, vs0, d0, ds0, p0, q0, hargs, rfl, rfl, h0, r0⟩ := trodAll_cons hA
  obtain ⟨v1, vs1, d1, ds1, p1, q1, rfl, rfl, rfl, h1, r1⟩ := trodAll_cons r0
  obtain ⟨rfl, rfl, rfl⟩ := trodAll_nil r1
  obtain rfl : args = #[v0, v1] := by cases args; simp_all
  obtain ⟨rfl, rfl⟩ := trodVars_none hV
  obtain ⟨a0, len0, c0, rfl⟩ := okWide_slice Try.underlying38 (hval 0 38 v0 rfl rfl)
  have k0 := h0
  have lt0 : ∀ x ∈ p0, x.block < W.heap.size := by obtain ⟨m, hm⟩ := k0; exact DataW.trod_lt m _ _ _ hm
  obtain ⟨l0, rfl, hx0, hb0⟩ := msgs_arg h0
  obtain ⟨n1, rfl, rfl, rfl, w1⟩ := open_int Try.underlying39 (hval 1 39 v1 rfl rfl) h1
  obtain ⟨n1, rfl, hn1⟩ := u16_nat w1
  clear hA0 hval0
  refine (walk a0 c0 l0 n1 W hx0 hb0 hn1).mono fun e W' ⟨he, bel⟩ => ?_
  subst he
  exact ⟨_, rfl, _, _, _, [], _, [], hW', trodAll_mk1 (shut_bool Try.underlying4 _), (trodAll_cons_mk (Below.trod laidOut (by kernel_rfl) (of_decide_eq_true (by kernel_rfl)) k0 bel lt0) (trodAll_cons_mk (shut_int Try.underlying39 w1) trodAll_mk0)), rfl, bel.frame _, fun h => by cases h⟩

theorem proved : Rows.TopFramedSaid :=
  OpenClaim.holds_of_wide 4 Try.f4 rfl rfl rfl rfl rfl rfl rfl ⟨rfl, rfl, rfl, rfl, rfl⟩ rfl rfl rfl rfl rfl (by kernel_rfl) Try.func4 (by kernel_rfl)
    (of_decide_eq_true (by kernel_rfl)) (by unfold Func.isWrapper; first | (rw [if_pos (by decide +kernel)]; kernel_rfl) | (rw [if_neg (by decide +kernel)]; exact ⟨rfl, rfl⟩))
    (fun os started H enc _ => lifted os started H enc)
end Go.Proofs.Ytilkginjppgcoaa.topFramed
namespace Go.Proofs.Ytilkginjppgcoaa
theorem topFramed_holds : Rows.TopFramedSaid := topFramed.proved
#print axioms topFramed_holds
end Go.Proofs.Ytilkginjppgcoaa
