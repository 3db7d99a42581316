/- Proved: a file that is written, synced and renamed over another one is whole behind every crash: the old one ahead of the renaming, the new one behind it; for all bytes and whatever is kept; no condition. -/
import Derived.Test.YtinmfbellefbhaaArg
import Derived.Test.YtinmfbellefbhaaDkm
namespace Go.Proofs.Ytinmfbellefbhaa.diskSwaps
open Go.ChangeShapes Go.WideShapes Go.ChangeAt Go.RowKit
set_option linter.unusedVariables false

theorem own : ownKnob Try.prog.godebug = none := by kernel_rfl
theorem laidOut : laidOutB Try.prog = true := by kernel_rfl

theorem swap1 (A : List Nat) (hA : A.length ≤ 4000) : dWrite 65536 [102] 0 A [] = (0, [([102], wrote sp0 0 A)]) := dWrite_new 65536 [102] rfl A [] rfl (by decide) (by omega) (by simp [usedS]; omega)
theorem swap2 (A : List Nat) : dSync [102] [([102], wrote sp0 0 A)] = (0, [([102], ⟨true, A, []⟩)]) := by
  have : dSync [102] [([102], wrote sp0 0 A)] = (0, [([102], ⟨true, (wrote sp0 0 A).now, []⟩)]) := rfl
  rw [this, wrote0_now]
theorem swap3 (A B : List Nat) (hA : A.length ≤ 4000) (hB : B.length ≤ 4000) : dWrite 65536 [116, 109, 112] 0 B [([102], ⟨true, A, []⟩)] = (0, [([102], ⟨true, A, []⟩), ([116, 109, 112], wrote sp0 0 B)]) :=
  dWrite_new 65536 [116, 109, 112] rfl B [([102], ⟨true, A, []⟩)] rfl (by simp) (by omega) (by simp [usedS, Sp.now, nowC]; omega)
theorem swap4 (A B : List Nat) : dSync [116, 109, 112] [([102], ⟨true, A, []⟩), ([116, 109, 112], wrote sp0 0 B)] = (0, [([102], ⟨true, A, []⟩), ([116, 109, 112], ⟨true, B, []⟩)]) := by
  have : dSync [116, 109, 112] [([102], ⟨true, A, []⟩), ([116, 109, 112], wrote sp0 0 B)] = (0, [([102], ⟨true, A, []⟩), ([116, 109, 112], ⟨true, (wrote sp0 0 B).now, []⟩)]) := rfl
  rw [this, wrote0_now]
theorem swap5 (A B : List Nat) : dRename [116, 109, 112] [102] [([102], ⟨true, A, []⟩), ([116, 109, 112], ⟨true, B, []⟩)] = (0, [([102], ⟨true, B, []⟩)]) := rfl
/-- What a crash leaves of the first file. -/
theorem swap6 (ks : List Int) (A : List Nat) (r : Ds) : getS (⟨#[102]⟩ : ByteArray).data.toList (crashS ks 0 (([102], ⟨true, A, []⟩) :: r)) = some ⟨true, A, []⟩ := by
  rw [crashS_first]
  exact getS_head [102] _ _
theorem lowB {w : World} {a : Option Addr} {l : List Nat} (h : BytesAt w a l) (n : Nat) (hn : l.length = n) (base : Nat) (hb : w.heap.size ≤ base) : ∀ b off, a = some ⟨b, off, none⟩ → 0 < n → b < base := by
  intro b off e h0
  obtain ⟨b', off', e1, e2⟩ := h.cell 0 (by omega)
  rw [e1] at e
  have hbb : b' = b := by simpa using congrArg (fun x => x.map Addr.block) e
  have := World.block_lt_of_cell? _ _ e2
  simp only at this
  omega
theorem lowI {w : World} {a : Option Addr} {l : List Int} (h : IntsAt w a l) (base : Nat) (hb : w.heap.size ≤ base) : ∀ b off, a = some ⟨b, off, none⟩ → 0 < l.length → b < base := by
  intro b off e h0
  obtain ⟨b', off', e1, e2⟩ := h.cell 0 h0
  rw [e1] at e
  have hbb : b' = b := by simpa using congrArg (fun x => x.map Addr.block) e
  have := World.block_lt_of_cell? _ _ e2
  simp only at this
  omega
set_option maxRecDepth 20000 in
set_option maxHeartbeats 40000000 in
theorem walk (a1 : Option Addr) (c1 : Nat) (l1 : List Nat) (a2 : Option Addr) (c2 : Nat) (l2 : List Nat) (kp : Option Addr) (kc : Nat) (ks : List Int) (w : World) (hc1 : l1.length ≤ c1) (hm1 : c1 ≤ 140737488355328) (hb1 : BytesAt w a1 l1) (hz1 : a1 = none → c1 = 0) (hc2 : l2.length ≤ c2) (hm2 : c2 ≤ 140737488355328) (hb2 : BytesAt w a2 l2) (hz2 : a2 = none → c2 = 0) (hx : ks.length ≤ maxLen) (hk : IntsAt w kp ks) :
    Calls Try.prog 7 #[.slice a1 l1.length c1, .slice a2 l2.length c2, .slice kp ks.length kc] w fun e w' => e = .returned (.bool true) ∧ Below w.heap.size w w' := by
  have LV := hide (live5_calls w)
  by_cases hA : 4000 < l1.length
  · have hA2 : (4000 : Int) < (l1.length : Int) := by omega
    clear hb1 hb2 hk hc1 hc2 hz1 hz2
    go_enter Try.func7, Try.ntmps7
    go_wp2_with (go_at_call 19; refine (unhide LV).mono ?_; rintro e W ⟨rfl, b⟩; have B := hide b; clear b)
    go_ret
    exact ⟨rfl, unhide B⟩
  · have hA2 : ¬ (4000 : Int) < (l1.length : Int) := by omega
    by_cases hB : 4000 < l2.length
    · have hB2 : (4000 : Int) < (l2.length : Int) := by omega
      clear hb1 hb2 hk hc1 hc2 hz1 hz2
      go_enter Try.func7, Try.ntmps7
      go_wp2_with (go_at_call 19; refine (unhide LV).mono ?_; rintro e W ⟨rfl, b⟩; have B := hide b; clear b)
      go_ret
      exact ⟨rfl, unhide B⟩
    · have hB2 : ¬ (4000 : Int) < (l2.length : Int) := by omega
      by_cases hC : 100 < ks.length
      · have hC2 : (100 : Int) < (ks.length : Int) := by omega
        clear hb1 hb2 hk hc1 hc2 hz1 hz2
        go_enter Try.func7, Try.ntmps7
        go_wp2_with (go_at_call 19; refine (unhide LV).mono ?_; rintro e W ⟨rfl, b⟩; have B := hide b; clear b)
        go_ret
        exact ⟨rfl, unhide B⟩
      · have hC2 : ¬ (100 : Int) < (ks.length : Int) := by omega
        have W1 := hide (fun (W : World) (b : Below w.heap.size w W) {base d M N : Nat} {ss : Ds} (hb : w.heap.size ≤ base) (h : Dv base W d M 65536 N ss) (hN : N + 1 ≤ 1000000) => vwrite_calls h hN (⟨#[102]⟩ : ByteArray) (sm (by decide)) 0 (by omega) a1 l1.length c1 l1 rfl hc1 (hb1.later b) hz1 (lowB hb1 l1.length rfl base hb) (by omega))
        have W2 := hide (fun (W : World) (b : Below w.heap.size w W) {base d M N : Nat} {ss : Ds} (hb : w.heap.size ≤ base) (h : Dv base W d M 65536 N ss) (hN : N + 1 ≤ 1000000) => vwrite_calls h hN (⟨#[116, 109, 112]⟩ : ByteArray) (sm (by decide)) 0 (by omega) a2 l2.length c2 l2 rfl hc2 (hb2.later b) hz2 (lowB hb2 l2.length rfl base hb) (by omega))
        have CR := hide (fun (W : World) (b : Below w.heap.size w W) {base d M N : Nat} {ss : Ds} (hb : w.heap.size ≤ base) (h : Dv base W d M 65536 N ss) => vcrash_calls h kp ks.length kc ks rfl (hk.later b) (lowI hk base hb))
        have S1 := hide (fun (W : World) (b : Below w.heap.size w W) => run_string8 l1.length c1 rfl (hb1.later b))
        have S2 := hide (fun (W : World) (b : Below w.heap.size w W) => run_string8 l2.length c2 rfl (hb2.later b))
        have P1 := hide (swap1 l1 (by omega))
        have P3 := hide (swap3 l1 l2 (by omega) (by omega))
        generalize hn1 : l1.length = n1 at *
        generalize hn2 : l2.length = n2 at *
        have HN1 := hide hn1
        have HN2 := hide hn2
        clear hb1 hb2 hk hc1 hc2 hz1 hz2 hn1 hn2 hA hB hC LV
        go_enter Try.func7, Try.ntmps7
        go_wp2_with fail
        go_loopw [7] (fun i wr => ∃ j : Nat, j ≤ 4 ∧ i = .int .i64 (j : Int) ∧ Hid (Below w.heap.size w wr)) (fun i _ => 4 - (intOf i).toNat)
        case atStart => exact ⟨0, by omega, rfl, hide (Below.refl _ _)⟩
        case round =>
          obtain ⟨j, hj, rfl, HB⟩ := hrel
          rcases (show j = 0 ∨ j = 1 ∨ j = 2 ∨ j = 3 ∨ j = 4 by omega) with rfl | rfl | rfl | rfl | rfl
          · -- stop = 0
            go_wp2_with fail
            refine (vnew_calls _ 65536).mono ?_
            rintro e V1 ⟨d, M, rfl, h1, b1⟩
            have H1 := hide h1
            have B1 := hide ((unhide HB).trans (b1.mono (unhide HB).size))
            have LB := hide (unhide HB).size
            clear h1 b1
            go_wp2_with fail
            refine (unhide W1 V1 (unhide B1) (unhide LB) (unhide H1) (by omega)).mono ?_
            rintro e V2 ⟨he, h2, b2⟩
            rw [show dWrite 65536 (⟨#[102]⟩ : ByteArray).data.toList 0 l1 [] = _ from unhide P1] at he h2
            subst he
            have H2 := hide h2
            have B2 := hide ((unhide B1).trans (b2.mono (unhide LB)))
            clear h2 b2 B1 H1
            go_wp2_with fail
            refine (vsync_calls (unhide H2) (⟨#[102]⟩ : ByteArray) (sm (by decide))).mono ?_
            rintro e V3 ⟨he, h3, b3⟩
            rw [show dSync (⟨#[102]⟩ : ByteArray).data.toList (0, [([102], wrote sp0 0 l1)]).2 = _ from swap2 l1] at he h3
            subst he
            have H3 := hide h3
            have B3 := hide ((unhide B2).trans (b3.mono (unhide LB)))
            clear h3 b3 B2 H2
            go_wp2_with fail
            refine (unhide CR _ (unhide B3) (unhide LB) (unhide H3)).mono ?_
            rintro e V7 ⟨rfl, h7, b7⟩
            have G7 := hide (swap6 ks l1 [])
            have H7 := hide h7
            have B7 := hide ((unhide B3).trans (b7.mono (unhide LB)))
            have s1 := unhide S1 V7 (unhide B7)
            have s2 := unhide S2 V7 (unhide B7)
            clear h7 b7 B3 H3
            go_wp2_with fail
            refine (vread_yes (unhide H7) (⟨#[102]⟩ : ByteArray) (sm (by decide)) _ (unhide G7)).mono ?_
            rintro e V8 ⟨sp, n, rfl, hn, h8, hX, b8⟩
            have X8 := hide (show BytesAt V8 sp l1 from hX.bytes)
            have B8 := hide ((unhide B7).trans (b8.mono (unhide B7).size))
            have s3 := run_string8 n n hn (unhide X8)
            rw [show (Sp.mk true l1 []).now = l1 from rfl] at s3
            clear hX b8 B7 H7 G7 hn
            go_wp2
            exact ⟨⟨1, by omega, rfl, unhide B8⟩, by simp [intOf]⟩
          · -- stop = 1
            go_wp2_with fail
            refine (vnew_calls _ 65536).mono ?_
            rintro e V1 ⟨d, M, rfl, h1, b1⟩
            have H1 := hide h1
            have B1 := hide ((unhide HB).trans (b1.mono (unhide HB).size))
            have LB := hide (unhide HB).size
            clear h1 b1
            go_wp2_with fail
            refine (unhide W1 V1 (unhide B1) (unhide LB) (unhide H1) (by omega)).mono ?_
            rintro e V2 ⟨he, h2, b2⟩
            rw [show dWrite 65536 (⟨#[102]⟩ : ByteArray).data.toList 0 l1 [] = _ from unhide P1] at he h2
            subst he
            have H2 := hide h2
            have B2 := hide ((unhide B1).trans (b2.mono (unhide LB)))
            clear h2 b2 B1 H1
            go_wp2_with fail
            refine (vsync_calls (unhide H2) (⟨#[102]⟩ : ByteArray) (sm (by decide))).mono ?_
            rintro e V3 ⟨he, h3, b3⟩
            rw [show dSync (⟨#[102]⟩ : ByteArray).data.toList (0, [([102], wrote sp0 0 l1)]).2 = _ from swap2 l1] at he h3
            subst he
            have H3 := hide h3
            have B3 := hide ((unhide B2).trans (b3.mono (unhide LB)))
            clear h3 b3 B2 H2
            go_wp2_with fail
            refine (unhide W2 V3 (unhide B3) (unhide LB) (unhide H3) (by omega)).mono ?_
            rintro e V4 ⟨he, h4, b4⟩
            rw [show dWrite 65536 (⟨#[116, 109, 112]⟩ : ByteArray).data.toList 0 l2 (0, [([102], ⟨true, l1, []⟩)]).2 = _ from unhide P3] at he h4
            subst he
            have H4 := hide h4
            have B4 := hide ((unhide B3).trans (b4.mono (unhide LB)))
            clear h4 b4 B3 H3
            go_wp2_with fail
            refine (unhide CR _ (unhide B4) (unhide LB) (unhide H4)).mono ?_
            rintro e V7 ⟨rfl, h7, b7⟩
            have G7 := hide (swap6 ks l1 [([116, 109, 112], wrote sp0 0 l2)])
            have H7 := hide h7
            have B7 := hide ((unhide B4).trans (b7.mono (unhide LB)))
            have s1 := unhide S1 V7 (unhide B7)
            have s2 := unhide S2 V7 (unhide B7)
            clear h7 b7 B4 H4
            go_wp2_with fail
            refine (vread_yes (unhide H7) (⟨#[102]⟩ : ByteArray) (sm (by decide)) _ (unhide G7)).mono ?_
            rintro e V8 ⟨sp, n, rfl, hn, h8, hX, b8⟩
            have X8 := hide (show BytesAt V8 sp l1 from hX.bytes)
            have B8 := hide ((unhide B7).trans (b8.mono (unhide B7).size))
            have s3 := run_string8 n n hn (unhide X8)
            rw [show (Sp.mk true l1 []).now = l1 from rfl] at s3
            clear hX b8 B7 H7 G7 hn
            go_wp2
            exact ⟨⟨2, by omega, rfl, unhide B8⟩, by simp [intOf]⟩
          · -- stop = 2
            go_wp2_with fail
            refine (vnew_calls _ 65536).mono ?_
            rintro e V1 ⟨d, M, rfl, h1, b1⟩
            have H1 := hide h1
            have B1 := hide ((unhide HB).trans (b1.mono (unhide HB).size))
            have LB := hide (unhide HB).size
            clear h1 b1
            go_wp2_with fail
            refine (unhide W1 V1 (unhide B1) (unhide LB) (unhide H1) (by omega)).mono ?_
            rintro e V2 ⟨he, h2, b2⟩
            rw [show dWrite 65536 (⟨#[102]⟩ : ByteArray).data.toList 0 l1 [] = _ from unhide P1] at he h2
            subst he
            have H2 := hide h2
            have B2 := hide ((unhide B1).trans (b2.mono (unhide LB)))
            clear h2 b2 B1 H1
            go_wp2_with fail
            refine (vsync_calls (unhide H2) (⟨#[102]⟩ : ByteArray) (sm (by decide))).mono ?_
            rintro e V3 ⟨he, h3, b3⟩
            rw [show dSync (⟨#[102]⟩ : ByteArray).data.toList (0, [([102], wrote sp0 0 l1)]).2 = _ from swap2 l1] at he h3
            subst he
            have H3 := hide h3
            have B3 := hide ((unhide B2).trans (b3.mono (unhide LB)))
            clear h3 b3 B2 H2
            go_wp2_with fail
            refine (unhide W2 V3 (unhide B3) (unhide LB) (unhide H3) (by omega)).mono ?_
            rintro e V4 ⟨he, h4, b4⟩
            rw [show dWrite 65536 (⟨#[116, 109, 112]⟩ : ByteArray).data.toList 0 l2 (0, [([102], ⟨true, l1, []⟩)]).2 = _ from unhide P3] at he h4
            subst he
            have H4 := hide h4
            have B4 := hide ((unhide B3).trans (b4.mono (unhide LB)))
            clear h4 b4 B3 H3
            go_wp2_with fail
            refine (vsync_calls (unhide H4) (⟨#[116, 109, 112]⟩ : ByteArray) (sm (by decide))).mono ?_
            rintro e V5 ⟨he, h5, b5⟩
            rw [show dSync (⟨#[116, 109, 112]⟩ : ByteArray).data.toList (0, [([102], ⟨true, l1, []⟩), ([116, 109, 112], wrote sp0 0 l2)]).2 = _ from swap4 l1 l2] at he h5
            subst he
            have H5 := hide h5
            have B5 := hide ((unhide B4).trans (b5.mono (unhide LB)))
            clear h5 b5 B4 H4
            go_wp2_with fail
            refine (unhide CR _ (unhide B5) (unhide LB) (unhide H5)).mono ?_
            rintro e V7 ⟨rfl, h7, b7⟩
            have G7 := hide (swap6 ks l1 [([116, 109, 112], ⟨true, l2, []⟩)])
            have H7 := hide h7
            have B7 := hide ((unhide B5).trans (b7.mono (unhide LB)))
            have s1 := unhide S1 V7 (unhide B7)
            have s2 := unhide S2 V7 (unhide B7)
            clear h7 b7 B5 H5
            go_wp2_with fail
            refine (vread_yes (unhide H7) (⟨#[102]⟩ : ByteArray) (sm (by decide)) _ (unhide G7)).mono ?_
            rintro e V8 ⟨sp, n, rfl, hn, h8, hX, b8⟩
            have X8 := hide (show BytesAt V8 sp l1 from hX.bytes)
            have B8 := hide ((unhide B7).trans (b8.mono (unhide B7).size))
            have s3 := run_string8 n n hn (unhide X8)
            rw [show (Sp.mk true l1 []).now = l1 from rfl] at s3
            clear hX b8 B7 H7 G7 hn
            go_wp2
            exact ⟨⟨3, by omega, rfl, unhide B8⟩, by simp [intOf]⟩
          · -- stop = 3
            go_wp2_with fail
            refine (vnew_calls _ 65536).mono ?_
            rintro e V1 ⟨d, M, rfl, h1, b1⟩
            have H1 := hide h1
            have B1 := hide ((unhide HB).trans (b1.mono (unhide HB).size))
            have LB := hide (unhide HB).size
            clear h1 b1
            go_wp2_with fail
            refine (unhide W1 V1 (unhide B1) (unhide LB) (unhide H1) (by omega)).mono ?_
            rintro e V2 ⟨he, h2, b2⟩
            rw [show dWrite 65536 (⟨#[102]⟩ : ByteArray).data.toList 0 l1 [] = _ from unhide P1] at he h2
            subst he
            have H2 := hide h2
            have B2 := hide ((unhide B1).trans (b2.mono (unhide LB)))
            clear h2 b2 B1 H1
            go_wp2_with fail
            refine (vsync_calls (unhide H2) (⟨#[102]⟩ : ByteArray) (sm (by decide))).mono ?_
            rintro e V3 ⟨he, h3, b3⟩
            rw [show dSync (⟨#[102]⟩ : ByteArray).data.toList (0, [([102], wrote sp0 0 l1)]).2 = _ from swap2 l1] at he h3
            subst he
            have H3 := hide h3
            have B3 := hide ((unhide B2).trans (b3.mono (unhide LB)))
            clear h3 b3 B2 H2
            go_wp2_with fail
            refine (unhide W2 V3 (unhide B3) (unhide LB) (unhide H3) (by omega)).mono ?_
            rintro e V4 ⟨he, h4, b4⟩
            rw [show dWrite 65536 (⟨#[116, 109, 112]⟩ : ByteArray).data.toList 0 l2 (0, [([102], ⟨true, l1, []⟩)]).2 = _ from unhide P3] at he h4
            subst he
            have H4 := hide h4
            have B4 := hide ((unhide B3).trans (b4.mono (unhide LB)))
            clear h4 b4 B3 H3
            go_wp2_with fail
            refine (vsync_calls (unhide H4) (⟨#[116, 109, 112]⟩ : ByteArray) (sm (by decide))).mono ?_
            rintro e V5 ⟨he, h5, b5⟩
            rw [show dSync (⟨#[116, 109, 112]⟩ : ByteArray).data.toList (0, [([102], ⟨true, l1, []⟩), ([116, 109, 112], wrote sp0 0 l2)]).2 = _ from swap4 l1 l2] at he h5
            subst he
            have H5 := hide h5
            have B5 := hide ((unhide B4).trans (b5.mono (unhide LB)))
            clear h5 b5 B4 H4
            go_wp2_with fail
            refine (vrename_calls (unhide H5) (⟨#[116, 109, 112]⟩ : ByteArray) (⟨#[102]⟩ : ByteArray) (sm (by decide)) (sm (by decide))).mono ?_
            rintro e V6 ⟨he, h6, b6⟩
            rw [show dRename (⟨#[116, 109, 112]⟩ : ByteArray).data.toList (⟨#[102]⟩ : ByteArray).data.toList (0, [([102], ⟨true, l1, []⟩), ([116, 109, 112], ⟨true, l2, []⟩)]).2 = _ from swap5 l1 l2] at he h6
            subst he
            have H6 := hide h6
            have B6 := hide ((unhide B5).trans (b6.mono (unhide LB)))
            clear h6 b6 B5 H5
            go_wp2_with fail
            refine (unhide CR _ (unhide B6) (unhide LB) (unhide H6)).mono ?_
            rintro e V7 ⟨rfl, h7, b7⟩
            have G7 := hide (swap6 ks l2 [])
            have H7 := hide h7
            have B7 := hide ((unhide B6).trans (b7.mono (unhide LB)))
            have s1 := unhide S1 V7 (unhide B7)
            have s2 := unhide S2 V7 (unhide B7)
            clear h7 b7 B6 H6
            go_wp2_with fail
            refine (vread_yes (unhide H7) (⟨#[102]⟩ : ByteArray) (sm (by decide)) _ (unhide G7)).mono ?_
            rintro e V8 ⟨sp, n, rfl, hn, h8, hX, b8⟩
            have X8 := hide (show BytesAt V8 sp l2 from hX.bytes)
            have B8 := hide ((unhide B7).trans (b8.mono (unhide B7).size))
            have s3 := run_string8 n n hn (unhide X8)
            rw [show (Sp.mk true l2 []).now = l2 from rfl] at s3
            clear hX b8 B7 H7 G7 hn
            go_wp2
            exact ⟨⟨4, by omega, rfl, unhide B8⟩, by simp [intOf]⟩
          · go_wp2_with fail
            refine (live5_calls _).mono ?_
            rintro e W9 ⟨rfl, b9⟩
            have B9 := hide ((unhide HB).trans (b9.mono (unhide HB).size))
            clear b9
            go_wp2
            go_ret
            exact ⟨rfl, unhide B9⟩

set_option maxRecDepth 100000 in
theorem lifted (os : Os) (started : os.Started) (H : Type) (enc : TypeId × Value → H) :
    ReturnsInHanded {} Try.checked os 7 .any (Rows.diskSwapsSpec.pre6 enc Try.prog Try.f7 Rows.diskSwapsRow.domain false) (Rows.diskSwapsSpec.post enc Try.prog Try.f7 false true false false) := by
  refine returnsInHanded_of_change_sized (C := Try.checked) own started (by kernel_rfl) Try.func7
    (ChangeSpec.witness6 (enc := enc) (C := Try.checked) false ⟨#[], #[.slice none 0 0, .slice none 0 0, .slice none 0 0], []⟩ 8 (by kernel_rfl) (by kernel_rfl) (by kernel_rfl) (by kernel_rfl)) ?_
  intro W base args ds gs before hval0 hW hcnd hsz _
  have hval : ∀ (j : Nat) t v, Try.f7.params[j]? = some t → args[j]? = some v → Value.okWide Try.prog W .any base t v := hval0
  have hW' := hW
  obtain ⟨p, q, hA0, hV, rfl, hfz, hnd⟩ := hW
  have hA : DataW.TrodAll enc Try.prog W 0 (fun _ => true) true Try.f7.params.toList args.toList ds p := hA0
  rw [Try.params7] at hA hval
  obtain ⟨v0, vs0, d0, ds0, p0, q0, hargs, rfl, rfl, h0, r0⟩ := trodAll_cons hA
  obtain ⟨v1, vs1, d1, ds1, p1, q1, rfl, rfl, rfl, h1, r1⟩ := trodAll_cons r0
  obtain ⟨v2, vs2, d2, ds2, p2, q2, rfl, rfl, rfl, h2, r2⟩ := trodAll_cons r1
  obtain ⟨rfl, rfl, rfl⟩ := trodAll_nil r2
  obtain rfl : args = #[v0, v1, v2] := by cases args; simp_all
  obtain ⟨rfl, rfl⟩ := trodVars_none hV
  obtain ⟨a0, len0, c0, rfl⟩ := okWide_slice Try.underlying28 (hval 0 28 v0 rfl rfl)
  have k0 := h0
  have lt0 : ∀ x ∈ p0, x.block < W.heap.size := by obtain ⟨m, hm⟩ := k0; exact DataW.trod_lt m _ _ _ hm
  obtain ⟨l0, rfl, hc0, hx0, hb0, hz0, hr0⟩ := row8 h0
  obtain ⟨a1, len1, c1, rfl⟩ := okWide_slice Try.underlying28 (hval 1 28 v1 rfl rfl)
  have k1 := h1
  have lt1 : ∀ x ∈ p1, x.block < W.heap.size := by obtain ⟨m, hm⟩ := k1; exact DataW.trod_lt m _ _ _ hm
  obtain ⟨l1, rfl, hc1, hx1, hb1, hz1, hr1⟩ := row8 h1
  obtain ⟨a2, len2, c2, rfl⟩ := okWide_slice Try.underlying29 (hval 2 29 v2 rfl rfl)
  have k2 := h2
  have lt2 : ∀ x ∈ p2, x.block < W.heap.size := by obtain ⟨m, hm⟩ := k2; exact DataW.trod_lt m _ _ _ hm
  obtain ⟨l2, rfl, hx2, hb2⟩ := row64 h2
  clear hA0 hval0
  have hm0 : c0 ≤ 140737488355328 := reach8 hsz (j := 0) (d := d0) rfl rfl hr0
  have hm1 : c1 ≤ 140737488355328 := reach8 hsz (j := 1) (d := d1) rfl rfl hr1
  refine (walk a0 c0 l0 a1 c1 l1 a2 c2 l2 W hc0 hm0 hb0 hz0 hc1 hm1 hb1 hz1 hx2 hb2).mono fun e W' ⟨he, bel⟩ => ?_
  subst he
  exact ⟨_, rfl, _, _, _, [], _, [], hW', trodAll_mk1 (shut_bool Try.underlying4 _), (trodAll_cons_mk (Below.trod laidOut (by kernel_rfl) (of_decide_eq_true (by kernel_rfl)) k0 bel lt0) (trodAll_cons_mk (Below.trod laidOut (by kernel_rfl) (of_decide_eq_true (by kernel_rfl)) k1 bel lt1) (trodAll_cons_mk (Below.trod laidOut (by kernel_rfl) (of_decide_eq_true (by kernel_rfl)) k2 bel lt2) trodAll_mk0))), rfl, bel.frame _, fun h => by cases h⟩

theorem proved : Rows.DiskSwapsSaid :=
  OpenClaim.holds_of_wide 7 Try.f7 rfl rfl rfl rfl rfl rfl rfl ⟨rfl, rfl, rfl, rfl, rfl⟩ rfl rfl rfl rfl rfl (by kernel_rfl) Try.func7 (by kernel_rfl)
    (of_decide_eq_true (by kernel_rfl)) (by unfold Func.isWrapper; first | (rw [if_pos (by decide +kernel)]; kernel_rfl) | (rw [if_neg (by decide +kernel)]; exact ⟨rfl, rfl⟩))
    (fun os started H enc _ => lifted os started H enc)
end Go.Proofs.Ytinmfbellefbhaa.diskSwaps
namespace Go.Proofs.Ytinmfbellefbhaa
theorem diskSwaps_holds : Rows.DiskSwapsSaid := diskSwaps.proved
#print axioms diskSwaps_holds
end Go.Proofs.Ytinmfbellefbhaa
