/- Proved: what was synced is there behind every crash, whatever happened to other files since; for all deeds (the first 200 of each are played); no condition. -/
import Derived.Test.YtinmfbellefbhaaDpy
import Derived.Test.YtinmfbellefbhaaDkk
namespace Go.Proofs.Ytinmfbellefbhaa.diskSynced
open Go.ChangeShapes Go.WideShapes Go.ChangeAt Go.RowKit
set_option linter.unusedVariables false

theorem own : ownKnob Try.prog.godebug = none := by kernel_rfl
theorem laidOut : laidOutB Try.prog = true := by kernel_rfl

section
variable {k k' : Nm} {ss : Ds}
theorem far_write (hr : Rises ss) (hne : k ≠ k') (room : Nat) (z : Int) (o : List Nat) : getS k (dWrite room k' z o ss).2 = getS k ss := by
  unfold dWrite
  split
  · rfl
  split
  · rfl
  split
  · rfl
  split
  · rfl
  rw [getS_put hr, if_neg hne]
theorem far_cut (hr : Rises ss) (hne : k ≠ k') (z : Int) : getS k (dCut k' z ss).2 = getS k ss := by
  unfold dCut
  split
  · rfl
  split
  · rfl
  rw [getS_put hr, if_neg hne]
theorem far_sync (hr : Rises ss) (hne : k ≠ k') : getS k (dSync k' ss).2 = getS k ss := by
  unfold dSync
  split
  · rfl
  rw [getS_put hr, if_neg hne]
theorem far_remove (hr : Rises ss) (hne : k ≠ k') : getS k (dRemove k' ss).2 = getS k ss := by
  unfold dRemove
  split
  · rfl
  rw [getS_del hr, if_neg hne]
theorem far_rename (hr : Rises ss) (hne : k ≠ k') (b : Nm) (hb : k ≠ b) : getS k (dRename k' b ss).2 = getS k ss := by
  unfold dRename
  split
  · rfl
  split
  · rw [getS_put (hr.del _), if_neg hb, getS_del hr, if_neg hne]
  · rfl
theorem far_crash (ks : List Int) (y : List Nat) : ∀ (ss : Ds) (i : Nat), getS k ss = some ⟨true, y, []⟩ → getS k (crashS ks i ss) = some ⟨true, y, []⟩
  | [], _, h => by simp [getS] at h
  | (k', s) :: r, i, h => by
    unfold crashS
    by_cases e : k' = k
    · subst e
      rw [getS_head] at h
      cases h
      simp only [crashOne, crashL, Bool.true_eq_false, false_and, if_false, List.cons_append, List.nil_append]
      rw [getS_head]
    · have hr : getS k r = some ⟨true, y, []⟩ := by
        simpa [getS, e] using h
      have ih := far_crash ks y r (i + 1) hr
      unfold crashOne
      split
      · exact ih
      · simp only [List.cons_append, List.nil_append]
        simpa [getS, e] using ih
theorem put_synced (hr : Rises ss) (room : Nat) (o : List Nat) (h1 : (dWrite room k 0 o (dRemove k ss).2).1 = 0) : getS k (dSync k (dWrite room k 0 o (dRemove k ss).2).2).2 = some ⟨true, o, []⟩ := by
  have hs1 : getS k (dRemove k ss).2 = none ∧ Rises (dRemove k ss).2 := by
    unfold dRemove
    split
    · rename_i h; exact ⟨h, hr⟩
    · exact ⟨by rw [getS_del hr, if_pos rfl], hr.del _⟩
  obtain ⟨hg, hr1⟩ := hs1
  generalize (dRemove k ss).2 = s1 at *
  have e : dWrite room k 0 o s1 = (0, putF k (wrote sp0 0 o) s1) := by
    unfold dWrite at h1 ⊢
    rw [hg] at h1 ⊢
    split at h1
    · cases h1
    split at h1
    · cases h1
    split at h1
    · cases h1
    split at h1
    · cases h1
    rename_i a1 a2 a3 a4
    rw [if_neg a1, if_neg a2, if_neg a3, if_neg a4]
    rfl
  rw [e]
  have g2 : getS k (putF k (wrote sp0 0 o) s1) = some (wrote sp0 0 o) := by rw [getS_put hr1, if_pos rfl]
  unfold dSync
  simp only [g2]
  rw [getS_put (hr1.put _ _), if_pos rfl, wrote0_now]
theorem Dv.riseS {base d M room N : Nat} {w : World} (h : Dv base w d M room N ss) : Rises ss := by
  obtain ⟨fs, h1, rfl⟩ := h.at_
  exact h1.riseS
theorem Two.toDv {base d M R room N : Nat} {B : List Nat} {w : World} {tt : Ds} (h : Two base B w d M R room N ss tt) : Dv base w d M room N ss := by
  obtain ⟨fs, sp, c, rs, h, rfl, rfl⟩ := h
  exact ⟨h.le, by have := h.few; omega, fs, h.disk, rfl⟩
end
set_option maxRecDepth 20000 in
set_option maxHeartbeats 40000000 in
theorem walk (a : Option Addr) (c : Nat) (es : List De) (a2 : Option Addr) (c2 : Nat) (es2 : List De) (x : De) (xq : DeH) (w : World) (hx : es.length ≤ maxLen) (hD : DesAt w a es) (hx2 : es2.length ≤ maxLen) (hD2 : DesAt w a2 es2) (hX : DeAt w x xq) :
    Calls Try.prog 4 #[.slice a es.length c, .slice a2 es2.length c2, deVal x xq] w fun e w' => e = .returned (.bool true) ∧ Below w.heap.size w w' := by
  have A0 := hide (show Below w.heap.size w (w.alloc (.cells #[.int .i64 x.kind, .string x.name, .string x.to, .int .i64 x.at_, .slice xq.bp x.bs.length xq.bc, .slice xq.kp x.keep.length xq.kc] 31)) from (Below.refl _ _).alloc (Nat.le_refl _) _)
  have PC := hide (play_calls 1048576 a es.length c es _ rfl hx (hD.later (unhide A0)))
  have X0 := hide (heap_new w (.cells #[.int .i64 x.kind, .string x.name, .string x.to, .int .i64 x.at_, .slice xq.bp x.bs.length xq.bc, .slice xq.kp x.keep.length xq.kc] 31))
  have BX := hide (show ∀ W, Below (w.alloc (.cells #[.int .i64 x.kind, .string x.name, .string x.to, .int .i64 x.at_, .slice xq.bp x.bs.length xq.bc, .slice xq.kp x.keep.length xq.kc] 31)).heap.size (w.alloc (.cells #[.int .i64 x.kind, .string x.name, .string x.to, .int .i64 x.at_, .slice xq.bp x.bs.length xq.bc, .slice xq.kp x.keep.length xq.kc] 31)) W → W.heap[w.heap.size]? = some (.cells #[.int .i64 x.kind, .string x.name, .string x.to, .int .i64 x.at_, .slice xq.bp x.bs.length xq.bc, .slice xq.kp x.keep.length xq.kc] 31) from fun W hb => (hb.block _ (by simp)).trans (unhide X0))
  have HX := hide (DeLow.of (hX.later (unhide A0)))
  have D2 := hide (hD2.later (unhide A0))
  have SC := hide (fun W => short_calls x xq W)
  have sn : x.name.size ≤ maxLen := hX.sn
  have SN := hide sn
  have XE := hide (show ∀ W V, Below (w.alloc (.cells #[.int .i64 x.kind, .string x.name, .string x.to, .int .i64 x.at_, .slice xq.bp x.bs.length xq.bc, .slice xq.kp x.keep.length xq.kc] 31)).heap.size (w.alloc (.cells #[.int .i64 x.kind, .string x.name, .string x.to, .int .i64 x.at_, .slice xq.bp x.bs.length xq.bc, .slice xq.kp x.keep.length xq.kc] 31)) W → Below W.heap.size W V → Below w.heap.size w V from fun W V h1 h2 => (unhide A0).trans ((h1.mono (unhide A0).size).trans (h2.mono (Nat.le_trans (unhide A0).size h1.size))))
  simp only [maxLen] at hx2
  clear hx hD hD2 hX sn
  generalize es.length = n at *
  generalize hn2 : es2.length = n2 at *
  have HN2 := hide hn2
  clear hn2
  unfold deVal at SC ⊢
  cases hsh : x.short with
  | false =>
    rw [hsh] at SC
    go_enter Try.func4, Try.ntmps4
    go_wp2_with fail
    generalize w.alloc (.cells #[.int .i64 x.kind, .string x.name, .string x.to, .int .i64 x.at_, .slice xq.bp x.bs.length xq.bc, .slice xq.kp x.keep.length xq.kc] 31) = V0 at *
    go_wp2_with (first
      | (go_at_call 20
         refine (unhide PC).mono ?_
         rintro e W0 ⟨d, M, R, N, ss, rfl, hN, hT, b1⟩
         have F0 := hide b1
         have Y0 := unhide BX W0 b1
         have v0 := fcell Y0 0 _ rfl
         have v1 := fcell Y0 1 _ rfl
         have v2 := fcell Y0 2 _ rfl
         have v3 := fcell Y0 3 _ rfl
         have v4 := fcell Y0 4 _ rfl
         have v5 := fcell Y0 5 _ rfl
         clear hT b1 Y0)
      | (go_at_call 14
         refine (unhide SC W0).mono ?_
         rintro e W1 ⟨rfl, b1⟩
         have F1 := hide ((unhide F0).trans (b1.mono (unhide F0).size))
         have LV := hide (live5_calls W1)
         clear b1)
      | (go_at_call 19
         refine (unhide LV).mono ?_
         rintro e V9 ⟨rfl, b9⟩
         have G9 := hide (unhide XE W1 V9 (unhide F1) b9)
         clear b9))
    go_ret
    exact ⟨rfl, unhide G9⟩
  | true =>
    rw [hsh] at SC
    have hb4 : x.bs.length ≤ 4000 := by
      unfold De.short at hsh
      simp at hsh
      exact hsh.1
    go_enter Try.func4, Try.ntmps4
    go_wp2_with fail
    generalize w.alloc (.cells #[.int .i64 x.kind, .string x.name, .string x.to, .int .i64 x.at_, .slice xq.bp x.bs.length xq.bc, .slice xq.kp x.keep.length xq.kc] 31) = V0 at *
    refine (unhide PC).mono ?_
    rintro e W0 ⟨d, M, R, N, ss, rfl, hN, hT, b1⟩
    have F0 := hide b1
    have H0 := hide (Two.toDv hT)
    have Y0 := unhide BX W0 b1
    have v0 := fcell Y0 0 _ rfl
    have v1 := fcell Y0 1 _ rfl
    have v2 := fcell Y0 2 _ rfl
    have v3 := fcell Y0 3 _ rfl
    have v4 := fcell Y0 4 _ rfl
    have v5 := fcell Y0 5 _ rfl
    clear hT b1 Y0
    generalize (1048576 : Int).toNat = room at *
    have hN1 : N + 1 ≤ 1000000 := by omega
    have RS := hide (Dv.riseS (unhide H0))
    obtain ⟨qw, hqw⟩ : ∃ q, (dWrite room x.name.data.toList 0 x.bs (dRemove x.name.data.toList ss).2).1 = q := ⟨_, rfl⟩
    obtain ⟨qs, hqs⟩ : ∃ q, (dSync x.name.data.toList (dWrite room x.name.data.toList 0 x.bs (dRemove x.name.data.toList ss).2).2).1 = q := ⟨_, rfl⟩
    by_cases hw : qw = 0
    · subst hw
      have PS := hide (put_synced (unhide RS) room x.bs hqw)
      by_cases hs : qs = 0
      · subst hs
        go_wp2_with (first
          | (go_at_call 14
             refine (unhide SC W0).mono ?_
             rintro e W1 ⟨rfl, b1⟩
             have F1 := hide ((unhide F0).trans (b1.mono (unhide F0).size))
             have Y1 := unhide BX W1 (unhide F1)
             have e1 := fcell Y1 1 _ rfl
             have e4 := fcell Y1 4 _ rfl
             have RC := hide (vremove_calls ((unhide H0).later b1) x.name (unhide SN))
             clear b1 Y1)
          | (go_at_call 21
             refine (unhide RC).mono ?_
             rintro e W2 ⟨rfl, h2, b2⟩
             have F2 := hide ((unhide F1).trans b2)
             have Y2 := unhide BX W2 (unhide F2)
             have g1 := fcell Y2 1 _ rfl
             have g4 := fcell Y2 4 _ rfl
             have WC := hide (vwrite_calls h2 hN1 x.name (unhide SN) 0 (by omega) xq.bp x.bs.length xq.bc x.bs rfl ((unhide HX).at_ W2 (unhide F2)).bcap ((unhide HX).at_ W2 (unhide F2)).by_ ((unhide HX).at_ W2 (unhide F2)).bz (unhide HX).lb (by omega))
             clear h2 b2 Y2)
          | (go_at_call 22
             refine (unhide WC).mono ?_
             rintro e W3 ⟨he, h3, b3⟩
             rw [hqw] at he
             subst he
             have F3 := hide ((unhide F2).trans b3)
             have Y3 := unhide BX W3 (unhide F3)
             have i1 := fcell Y3 1 _ rfl
             have SY := hide (vsync_calls h3 x.name (unhide SN))
             have LV := hide (live5_calls W3)
             clear h3 b3 Y3)
          | (go_at_call 23
             refine (unhide SY).mono ?_
             rintro e W4 ⟨he, h4, b4⟩
             rw [hqs] at he
             subst he
             have F4 := hide ((unhide F3).trans b4)
             have H4 := hide h4
             have LV := hide (live5_calls W4)
             clear h4 b4))
        generalize (dSync x.name.data.toList (dWrite room x.name.data.toList 0 x.bs (dRemove x.name.data.toList ss).2).2).2 = s0 at *
        clear RC WC SY LV v0 v1 v2 v3 v4 v5 e1 e4 g1 g4 i1 hqw hqs H0 F0 F1 F2 F3 RS
        generalize hk : x.name.data.toList = k at *
        have HK := hide hk
        clear hk
        go_loopw [10] (fun i wr => ∃ (j N : Nat) (ss : Ds), j ≤ n2 ∧ j ≤ 200 ∧ i = .int .i64 (j : Int) ∧ Hid (N ≤ 201 + j) ∧ Hid (Dv V0.heap.size wr d M room N ss) ∧ Hid (getS k ss = some ⟨true, x.bs, []⟩) ∧ Hid (Below V0.heap.size V0 wr)) (fun i _ => n2 - (intOf i).toNat)
        case atStart => exact ⟨0, N + 1, s0, by omega, by omega, rfl, hide (by omega), H4, PS, F4⟩
        case round =>
          obtain ⟨j, N, ss, hj, hj200, rfl, HNj, H, G, F⟩ := hrel
          clear H4 PS F4
          by_cases hjm : j < n2 ∧ j < 200
          · have y0 : (0 : Int) ≤ (j : Int) := by omega
            have y1 : (j : Int) < (n2 : Int) := by omega
            have y2 : (j : Int) < 200 := by omega
            have hjl : j < es2.length := by rw [unhide HN2]; exact hjm.1
            obtain ⟨b, off, hh, rfl, cc, ha⟩ := (unhide D2).cell j hjl
            have LW := hide ((DeLow.of ha).below (unhide F))
            obtain ⟨r0, r1, r2, r3, r4, r5⟩ := cc
            have q0 := cell_later (unhide F) r0
            have q1 := cell_later (unhide F) r1
            have q2 := cell_later (unhide F) r2
            have q3 := cell_later (unhide F) r3
            have q4 := cell_later (unhide F) r4
            have q5 := cell_later (unhide F) r5
            clear r0 r1 r2 r3 r4 r5 ha
            generalize es2[j] = e at *
            have hN1 : N + 1 ≤ 1000000 := by have := unhide HNj; omega
            obtain ⟨kd, nm, to, z, bs, ks⟩ := e
            simp only at q0 q1 q2 q3 q4 q5
            cases hsy : De.short ⟨kd, nm, to, z, bs, ks⟩ with
            | false =>
              have AY := hide (show Below wr.heap.size wr (wr.alloc (.cells #[.int .i64 kd, .string nm, .string to, .int .i64 z, .slice hh.bp bs.length hh.bc, .slice hh.kp ks.length hh.kc] 31)) from (Below.refl _ _).alloc (Nat.le_refl _) _)
              have YX := hide (heap_new wr (.cells #[.int .i64 kd, .string nm, .string to, .int .i64 z, .slice hh.bp bs.length hh.bc, .slice hh.kp ks.length hh.kc] 31))
              have SHY := hide (short_calls ⟨kd, nm, to, z, bs, ks⟩ hh (wr.alloc (.cells #[.int .i64 kd, .string nm, .string to, .int .i64 z, .slice hh.bp bs.length hh.bc, .slice hh.kp ks.length hh.kc] 31)))
              unfold deVal at SHY
              rw [hsy] at SHY
              go_wp2_with (first
                | (go_at_call 14
                   refine (unhide SHY).mono ?_
                   rintro r V2 ⟨rfl, b2⟩
                   have B2 := hide ((unhide AY).trans (b2.mono (unhide AY).size))
                   have F2 := hide ((unhide F).trans ((unhide B2).mono (unhide F).size))
                   have H2 := hide ((unhide H).later (unhide B2))
                   have Z1 := (b2.block wr.heap.size (by simp)).trans (unhide YX)
                   have Z2 := unhide BX V2 (unhide F2)
                   have s0 := fcell Z1 0 _ rfl
                   have s1 := fcell Z1 1 _ rfl
                   have s2 := fcell Z1 2 _ rfl
                   have s3 := fcell Z1 3 _ rfl
                   have s4 := fcell Z1 4 _ rfl
                   have s5 := fcell Z1 5 _ rfl
                   have t1 := fcell Z2 1 _ rfl
                   have DA := hide ((unhide LW).at_ V2 ((unhide B2).mono (unhide F).size))
                   clear b2 Z1 Z2))
              exact ⟨⟨j + 1, N, _, by omega, by omega, by go_num, hide (by have := unhide HNj; omega), H2, G, F2⟩, by simp [intOf]; omega⟩
            | true =>
              have hb4y : bs.length ≤ 4000 := by
                unfold De.short at hsy
                simp at hsy
                exact hsy.1
              by_cases hnm : nm.data.toList = k
              · have hq : (nm.toList == x.name.toList) = true := by rw [ByteArray.toList_eq, ByteArray.toList_eq, hnm, unhide HK]; simp
                clear hnm
                have AY := hide (show Below wr.heap.size wr (wr.alloc (.cells #[.int .i64 kd, .string nm, .string to, .int .i64 z, .slice hh.bp bs.length hh.bc, .slice hh.kp ks.length hh.kc] 31)) from (Below.refl _ _).alloc (Nat.le_refl _) _)
                have YX := hide (heap_new wr (.cells #[.int .i64 kd, .string nm, .string to, .int .i64 z, .slice hh.bp bs.length hh.bc, .slice hh.kp ks.length hh.kc] 31))
                have SHY := hide (short_calls ⟨kd, nm, to, z, bs, ks⟩ hh (wr.alloc (.cells #[.int .i64 kd, .string nm, .string to, .int .i64 z, .slice hh.bp bs.length hh.bc, .slice hh.kp ks.length hh.kc] 31)))
                unfold deVal at SHY
                rw [hsy] at SHY
                go_wp2_with (first
                  | (go_at_call 14
                     refine (unhide SHY).mono ?_
                     rintro r V2 ⟨rfl, b2⟩
                     have B2 := hide ((unhide AY).trans (b2.mono (unhide AY).size))
                     have F2 := hide ((unhide F).trans ((unhide B2).mono (unhide F).size))
                     have H2 := hide ((unhide H).later (unhide B2))
                     have Z1 := (b2.block wr.heap.size (by simp)).trans (unhide YX)
                     have Z2 := unhide BX V2 (unhide F2)
                     have s0 := fcell Z1 0 _ rfl
                     have s1 := fcell Z1 1 _ rfl
                     have s2 := fcell Z1 2 _ rfl
                     have s3 := fcell Z1 3 _ rfl
                     have s4 := fcell Z1 4 _ rfl
                     have s5 := fcell Z1 5 _ rfl
                     have t1 := fcell Z2 1 _ rfl
                     have DA := hide ((unhide LW).at_ V2 ((unhide B2).mono (unhide F).size))
                     clear b2 Z1 Z2))
                exact ⟨⟨j + 1, N, _, by omega, by omega, by go_num, hide (by have := unhide HNj; omega), H2, G, F2⟩, by simp [intOf]; omega⟩
              · have hq : (nm.toList == x.name.toList) = false := by rw [ByteArray.toList_eq, ByteArray.toList_eq, unhide HK]; simpa using hnm
                have NE : k ≠ nm.data.toList := fun e => hnm e.symm
                clear hnm
                by_cases hk0 : kd = 0
                · subst hk0
                  have AY := hide (show Below wr.heap.size wr (wr.alloc (.cells #[.int .i64 0, .string nm, .string to, .int .i64 z, .slice hh.bp bs.length hh.bc, .slice hh.kp ks.length hh.kc] 31)) from (Below.refl _ _).alloc (Nat.le_refl _) _)
                  have YX := hide (heap_new wr (.cells #[.int .i64 0, .string nm, .string to, .int .i64 z, .slice hh.bp bs.length hh.bc, .slice hh.kp ks.length hh.kc] 31))
                  have SHY := hide (short_calls ⟨0, nm, to, z, bs, ks⟩ hh (wr.alloc (.cells #[.int .i64 0, .string nm, .string to, .int .i64 z, .slice hh.bp bs.length hh.bc, .slice hh.kp ks.length hh.kc] 31)))
                  unfold deVal at SHY
                  rw [hsy] at SHY
                  go_wp2_with (first
                    | (go_at_call 14
                       refine (unhide SHY).mono ?_
                       rintro r V2 ⟨rfl, b2⟩
                       have B2 := hide ((unhide AY).trans (b2.mono (unhide AY).size))
                       have F2 := hide ((unhide F).trans ((unhide B2).mono (unhide F).size))
                       have H2 := hide ((unhide H).later (unhide B2))
                       have Z1 := (b2.block wr.heap.size (by simp)).trans (unhide YX)
                       have Z2 := unhide BX V2 (unhide F2)
                       have s0 := fcell Z1 0 _ rfl
                       have s1 := fcell Z1 1 _ rfl
                       have s2 := fcell Z1 2 _ rfl
                       have s3 := fcell Z1 3 _ rfl
                       have s4 := fcell Z1 4 _ rfl
                       have s5 := fcell Z1 5 _ rfl
                       have t1 := fcell Z2 1 _ rfl
                       have DA := hide ((unhide LW).at_ V2 ((unhide B2).mono (unhide F).size))
                       have AC := hide (vwrite_calls (unhide H2) hN1 nm (unhide DA).sn z (unhide DA).wa.2 hh.bp bs.length hh.bc bs rfl (unhide DA).bcap (unhide DA).by_ (unhide DA).bz (unhide LW).lb (Nat.le_trans hb4y (by omega)))
                       clear b2 Z1 Z2)
                    | (go_at_call 22
                       refine (unhide AC).mono ?_
                       rintro r V3 ⟨rfl, h3, b3⟩
                       have G3 := hide ((far_write (Dv.riseS (unhide H)) NE room z bs).trans (unhide G))
                       have F3 := hide ((unhide F2).trans b3)))
                  exact ⟨⟨j + 1, N + 1, _, by omega, by omega, by go_num, hide (by have := unhide HNj; omega), hide h3, G3, F3⟩, by simp [intOf]; omega⟩
                by_cases hk1 : kd = 1
                · subst hk1
                  have AY := hide (show Below wr.heap.size wr (wr.alloc (.cells #[.int .i64 1, .string nm, .string to, .int .i64 z, .slice hh.bp bs.length hh.bc, .slice hh.kp ks.length hh.kc] 31)) from (Below.refl _ _).alloc (Nat.le_refl _) _)
                  have YX := hide (heap_new wr (.cells #[.int .i64 1, .string nm, .string to, .int .i64 z, .slice hh.bp bs.length hh.bc, .slice hh.kp ks.length hh.kc] 31))
                  have SHY := hide (short_calls ⟨1, nm, to, z, bs, ks⟩ hh (wr.alloc (.cells #[.int .i64 1, .string nm, .string to, .int .i64 z, .slice hh.bp bs.length hh.bc, .slice hh.kp ks.length hh.kc] 31)))
                  unfold deVal at SHY
                  rw [hsy] at SHY
                  go_wp2_with (first
                    | (go_at_call 14
                       refine (unhide SHY).mono ?_
                       rintro r V2 ⟨rfl, b2⟩
                       have B2 := hide ((unhide AY).trans (b2.mono (unhide AY).size))
                       have F2 := hide ((unhide F).trans ((unhide B2).mono (unhide F).size))
                       have H2 := hide ((unhide H).later (unhide B2))
                       have Z1 := (b2.block wr.heap.size (by simp)).trans (unhide YX)
                       have Z2 := unhide BX V2 (unhide F2)
                       have s0 := fcell Z1 0 _ rfl
                       have s1 := fcell Z1 1 _ rfl
                       have s2 := fcell Z1 2 _ rfl
                       have s3 := fcell Z1 3 _ rfl
                       have s4 := fcell Z1 4 _ rfl
                       have s5 := fcell Z1 5 _ rfl
                       have t1 := fcell Z2 1 _ rfl
                       have DA := hide ((unhide LW).at_ V2 ((unhide B2).mono (unhide F).size))
                       have AC := hide (vcut_calls (unhide H2) hN1 nm (unhide DA).sn z)
                       clear b2 Z1 Z2)
                    | (go_at_call 24
                       refine (unhide AC).mono ?_
                       rintro r V3 ⟨rfl, h3, b3⟩
                       have G3 := hide ((far_cut (Dv.riseS (unhide H)) NE z).trans (unhide G))
                       have F3 := hide ((unhide F2).trans b3)))
                  exact ⟨⟨j + 1, N + 1, _, by omega, by omega, by go_num, hide (by have := unhide HNj; omega), hide h3, G3, F3⟩, by simp [intOf]; omega⟩
                by_cases hk2 : kd = 2
                · subst hk2
                  have AY := hide (show Below wr.heap.size wr (wr.alloc (.cells #[.int .i64 2, .string nm, .string to, .int .i64 z, .slice hh.bp bs.length hh.bc, .slice hh.kp ks.length hh.kc] 31)) from (Below.refl _ _).alloc (Nat.le_refl _) _)
                  have YX := hide (heap_new wr (.cells #[.int .i64 2, .string nm, .string to, .int .i64 z, .slice hh.bp bs.length hh.bc, .slice hh.kp ks.length hh.kc] 31))
                  have SHY := hide (short_calls ⟨2, nm, to, z, bs, ks⟩ hh (wr.alloc (.cells #[.int .i64 2, .string nm, .string to, .int .i64 z, .slice hh.bp bs.length hh.bc, .slice hh.kp ks.length hh.kc] 31)))
                  unfold deVal at SHY
                  rw [hsy] at SHY
                  go_wp2_with (first
                    | (go_at_call 14
                       refine (unhide SHY).mono ?_
                       rintro r V2 ⟨rfl, b2⟩
                       have B2 := hide ((unhide AY).trans (b2.mono (unhide AY).size))
                       have F2 := hide ((unhide F).trans ((unhide B2).mono (unhide F).size))
                       have H2 := hide ((unhide H).later (unhide B2))
                       have Z1 := (b2.block wr.heap.size (by simp)).trans (unhide YX)
                       have Z2 := unhide BX V2 (unhide F2)
                       have s0 := fcell Z1 0 _ rfl
                       have s1 := fcell Z1 1 _ rfl
                       have s2 := fcell Z1 2 _ rfl
                       have s3 := fcell Z1 3 _ rfl
                       have s4 := fcell Z1 4 _ rfl
                       have s5 := fcell Z1 5 _ rfl
                       have t1 := fcell Z2 1 _ rfl
                       have DA := hide ((unhide LW).at_ V2 ((unhide B2).mono (unhide F).size))
                       have AC := hide (vsync_calls (unhide H2) nm (unhide DA).sn)
                       clear b2 Z1 Z2)
                    | (go_at_call 23
                       refine (unhide AC).mono ?_
                       rintro r V3 ⟨rfl, h3, b3⟩
                       have G3 := hide ((far_sync (Dv.riseS (unhide H)) NE).trans (unhide G))
                       have F3 := hide ((unhide F2).trans b3)))
                  exact ⟨⟨j + 1, N, _, by omega, by omega, by go_num, hide (by have := unhide HNj; omega), hide h3, G3, F3⟩, by simp [intOf]; omega⟩
                by_cases hk3 : kd = 3
                · subst hk3
                  by_cases hto : to.data.toList = k
                  · have hq2 : (to.toList == x.name.toList) = true := by rw [ByteArray.toList_eq, ByteArray.toList_eq, hto, unhide HK]; simp
                    clear hto
                    have AY := hide (show Below wr.heap.size wr (wr.alloc (.cells #[.int .i64 3, .string nm, .string to, .int .i64 z, .slice hh.bp bs.length hh.bc, .slice hh.kp ks.length hh.kc] 31)) from (Below.refl _ _).alloc (Nat.le_refl _) _)
                    have YX := hide (heap_new wr (.cells #[.int .i64 3, .string nm, .string to, .int .i64 z, .slice hh.bp bs.length hh.bc, .slice hh.kp ks.length hh.kc] 31))
                    have SHY := hide (short_calls ⟨3, nm, to, z, bs, ks⟩ hh (wr.alloc (.cells #[.int .i64 3, .string nm, .string to, .int .i64 z, .slice hh.bp bs.length hh.bc, .slice hh.kp ks.length hh.kc] 31)))
                    unfold deVal at SHY
                    rw [hsy] at SHY
                    go_wp2_with (first
                      | (go_at_call 14
                         refine (unhide SHY).mono ?_
                         rintro r V2 ⟨rfl, b2⟩
                         have B2 := hide ((unhide AY).trans (b2.mono (unhide AY).size))
                         have F2 := hide ((unhide F).trans ((unhide B2).mono (unhide F).size))
                         have H2 := hide ((unhide H).later (unhide B2))
                         have Z1 := (b2.block wr.heap.size (by simp)).trans (unhide YX)
                         have Z2 := unhide BX V2 (unhide F2)
                         have s0 := fcell Z1 0 _ rfl
                         have s1 := fcell Z1 1 _ rfl
                         have s2 := fcell Z1 2 _ rfl
                         have s3 := fcell Z1 3 _ rfl
                         have s4 := fcell Z1 4 _ rfl
                         have s5 := fcell Z1 5 _ rfl
                         have t1 := fcell Z2 1 _ rfl
                         have DA := hide ((unhide LW).at_ V2 ((unhide B2).mono (unhide F).size))
                         clear b2 Z1 Z2))
                    exact ⟨⟨j + 1, N, _, by omega, by omega, by go_num, hide (by have := unhide HNj; omega), H2, G, F2⟩, by simp [intOf]; omega⟩
                  · have hq2 : (to.toList == x.name.toList) = false := by rw [ByteArray.toList_eq, ByteArray.toList_eq, unhide HK]; simpa using hto
                    have NT : k ≠ to.data.toList := fun e => hto e.symm
                    clear hto
                    have AY := hide (show Below wr.heap.size wr (wr.alloc (.cells #[.int .i64 3, .string nm, .string to, .int .i64 z, .slice hh.bp bs.length hh.bc, .slice hh.kp ks.length hh.kc] 31)) from (Below.refl _ _).alloc (Nat.le_refl _) _)
                    have YX := hide (heap_new wr (.cells #[.int .i64 3, .string nm, .string to, .int .i64 z, .slice hh.bp bs.length hh.bc, .slice hh.kp ks.length hh.kc] 31))
                    have SHY := hide (short_calls ⟨3, nm, to, z, bs, ks⟩ hh (wr.alloc (.cells #[.int .i64 3, .string nm, .string to, .int .i64 z, .slice hh.bp bs.length hh.bc, .slice hh.kp ks.length hh.kc] 31)))
                    unfold deVal at SHY
                    rw [hsy] at SHY
                    go_wp2_with (first
                      | (go_at_call 14
                         refine (unhide SHY).mono ?_
                         rintro r V2 ⟨rfl, b2⟩
                         have B2 := hide ((unhide AY).trans (b2.mono (unhide AY).size))
                         have F2 := hide ((unhide F).trans ((unhide B2).mono (unhide F).size))
                         have H2 := hide ((unhide H).later (unhide B2))
                         have Z1 := (b2.block wr.heap.size (by simp)).trans (unhide YX)
                         have Z2 := unhide BX V2 (unhide F2)
                         have s0 := fcell Z1 0 _ rfl
                         have s1 := fcell Z1 1 _ rfl
                         have s2 := fcell Z1 2 _ rfl
                         have s3 := fcell Z1 3 _ rfl
                         have s4 := fcell Z1 4 _ rfl
                         have s5 := fcell Z1 5 _ rfl
                         have t1 := fcell Z2 1 _ rfl
                         have DA := hide ((unhide LW).at_ V2 ((unhide B2).mono (unhide F).size))
                         have AC := hide (vrename_calls (unhide H2) nm to (unhide DA).sn (unhide DA).st)
                         clear b2 Z1 Z2)
                      | (go_at_call 25
                         refine (unhide AC).mono ?_
                         rintro r V3 ⟨rfl, h3, b3⟩
                         have G3 := hide ((far_rename (Dv.riseS (unhide H)) NE to.data.toList NT).trans (unhide G))
                         have F3 := hide ((unhide F2).trans b3)))
                    exact ⟨⟨j + 1, N, _, by omega, by omega, by go_num, hide (by have := unhide HNj; omega), hide h3, G3, F3⟩, by simp [intOf]; omega⟩
                by_cases hk4 : kd = 4
                · subst hk4
                  have AY := hide (show Below wr.heap.size wr (wr.alloc (.cells #[.int .i64 4, .string nm, .string to, .int .i64 z, .slice hh.bp bs.length hh.bc, .slice hh.kp ks.length hh.kc] 31)) from (Below.refl _ _).alloc (Nat.le_refl _) _)
                  have YX := hide (heap_new wr (.cells #[.int .i64 4, .string nm, .string to, .int .i64 z, .slice hh.bp bs.length hh.bc, .slice hh.kp ks.length hh.kc] 31))
                  have SHY := hide (short_calls ⟨4, nm, to, z, bs, ks⟩ hh (wr.alloc (.cells #[.int .i64 4, .string nm, .string to, .int .i64 z, .slice hh.bp bs.length hh.bc, .slice hh.kp ks.length hh.kc] 31)))
                  unfold deVal at SHY
                  rw [hsy] at SHY
                  go_wp2_with (first
                    | (go_at_call 14
                       refine (unhide SHY).mono ?_
                       rintro r V2 ⟨rfl, b2⟩
                       have B2 := hide ((unhide AY).trans (b2.mono (unhide AY).size))
                       have F2 := hide ((unhide F).trans ((unhide B2).mono (unhide F).size))
                       have H2 := hide ((unhide H).later (unhide B2))
                       have Z1 := (b2.block wr.heap.size (by simp)).trans (unhide YX)
                       have Z2 := unhide BX V2 (unhide F2)
                       have s0 := fcell Z1 0 _ rfl
                       have s1 := fcell Z1 1 _ rfl
                       have s2 := fcell Z1 2 _ rfl
                       have s3 := fcell Z1 3 _ rfl
                       have s4 := fcell Z1 4 _ rfl
                       have s5 := fcell Z1 5 _ rfl
                       have t1 := fcell Z2 1 _ rfl
                       have DA := hide ((unhide LW).at_ V2 ((unhide B2).mono (unhide F).size))
                       have AC := hide (vremove_calls (unhide H2) nm (unhide DA).sn)
                       clear b2 Z1 Z2)
                    | (go_at_call 21
                       refine (unhide AC).mono ?_
                       rintro r V3 ⟨rfl, h3, b3⟩
                       have G3 := hide ((far_remove (Dv.riseS (unhide H)) NE).trans (unhide G))
                       have F3 := hide ((unhide F2).trans b3)))
                  exact ⟨⟨j + 1, N, _, by omega, by omega, by go_num, hide (by have := unhide HNj; omega), hide h3, G3, F3⟩, by simp [intOf]; omega⟩
                by_cases hk5 : kd = 5
                · subst hk5
                  have AY := hide (show Below wr.heap.size wr (wr.alloc (.cells #[.int .i64 5, .string nm, .string to, .int .i64 z, .slice hh.bp bs.length hh.bc, .slice hh.kp ks.length hh.kc] 31)) from (Below.refl _ _).alloc (Nat.le_refl _) _)
                  have YX := hide (heap_new wr (.cells #[.int .i64 5, .string nm, .string to, .int .i64 z, .slice hh.bp bs.length hh.bc, .slice hh.kp ks.length hh.kc] 31))
                  have SHY := hide (short_calls ⟨5, nm, to, z, bs, ks⟩ hh (wr.alloc (.cells #[.int .i64 5, .string nm, .string to, .int .i64 z, .slice hh.bp bs.length hh.bc, .slice hh.kp ks.length hh.kc] 31)))
                  unfold deVal at SHY
                  rw [hsy] at SHY
                  go_wp2_with (first
                    | (go_at_call 14
                       refine (unhide SHY).mono ?_
                       rintro r V2 ⟨rfl, b2⟩
                       have B2 := hide ((unhide AY).trans (b2.mono (unhide AY).size))
                       have F2 := hide ((unhide F).trans ((unhide B2).mono (unhide F).size))
                       have H2 := hide ((unhide H).later (unhide B2))
                       have Z1 := (b2.block wr.heap.size (by simp)).trans (unhide YX)
                       have Z2 := unhide BX V2 (unhide F2)
                       have s0 := fcell Z1 0 _ rfl
                       have s1 := fcell Z1 1 _ rfl
                       have s2 := fcell Z1 2 _ rfl
                       have s3 := fcell Z1 3 _ rfl
                       have s4 := fcell Z1 4 _ rfl
                       have s5 := fcell Z1 5 _ rfl
                       have t1 := fcell Z2 1 _ rfl
                       have DA := hide ((unhide LW).at_ V2 ((unhide B2).mono (unhide F).size))
                       have AC := hide (vcrash_calls (unhide H2) hh.kp ks.length hh.kc ks rfl (unhide DA).ks (unhide LW).lk)
                       clear b2 Z1 Z2)
                    | (go_at_call 26
                       refine (unhide AC).mono ?_
                       rintro r V3 ⟨rfl, h3, b3⟩
                       have G3 := hide (far_crash ks x.bs _ 0 (unhide G))
                       have F3 := hide ((unhide F2).trans b3)))
                  exact ⟨⟨j + 1, N, _, by omega, by omega, by go_num, hide (by have := unhide HNj; omega), hide h3, G3, F3⟩, by simp [intOf]; omega⟩
                have kf0 : (kd == 0) = false := by simpa using hk0
                have kf1 : (kd == 1) = false := by simpa using hk1
                have kf2 : (kd == 2) = false := by simpa using hk2
                have kf3 : (kd == 3) = false := by simpa using hk3
                have kf4 : (kd == 4) = false := by simpa using hk4
                have kf5 : (kd == 5) = false := by simpa using hk5
                have AY := hide (show Below wr.heap.size wr (wr.alloc (.cells #[.int .i64 kd, .string nm, .string to, .int .i64 z, .slice hh.bp bs.length hh.bc, .slice hh.kp ks.length hh.kc] 31)) from (Below.refl _ _).alloc (Nat.le_refl _) _)
                have YX := hide (heap_new wr (.cells #[.int .i64 kd, .string nm, .string to, .int .i64 z, .slice hh.bp bs.length hh.bc, .slice hh.kp ks.length hh.kc] 31))
                have SHY := hide (short_calls ⟨kd, nm, to, z, bs, ks⟩ hh (wr.alloc (.cells #[.int .i64 kd, .string nm, .string to, .int .i64 z, .slice hh.bp bs.length hh.bc, .slice hh.kp ks.length hh.kc] 31)))
                unfold deVal at SHY
                rw [hsy] at SHY
                go_wp2_with (first
                  | (go_at_call 14
                     refine (unhide SHY).mono ?_
                     rintro r V2 ⟨rfl, b2⟩
                     have B2 := hide ((unhide AY).trans (b2.mono (unhide AY).size))
                     have F2 := hide ((unhide F).trans ((unhide B2).mono (unhide F).size))
                     have H2 := hide ((unhide H).later (unhide B2))
                     have Z1 := (b2.block wr.heap.size (by simp)).trans (unhide YX)
                     have Z2 := unhide BX V2 (unhide F2)
                     have s0 := fcell Z1 0 _ rfl
                     have s1 := fcell Z1 1 _ rfl
                     have s2 := fcell Z1 2 _ rfl
                     have s3 := fcell Z1 3 _ rfl
                     have s4 := fcell Z1 4 _ rfl
                     have s5 := fcell Z1 5 _ rfl
                     have t1 := fcell Z2 1 _ rfl
                     have DA := hide ((unhide LW).at_ V2 ((unhide B2).mono (unhide F).size))
                     clear b2 Z1 Z2))
                exact ⟨⟨j + 1, N, _, by omega, by omega, by go_num, hide (by have := unhide HNj; omega), H2, G, F2⟩, by simp [intOf]; omega⟩
          · have RA := hide (vcrash_calls (unhide H) xq.kp x.keep.length xq.kc x.keep rfl ((unhide HX).at_ wr (unhide F)).ks (unhide HX).lk)
            have Y9 := unhide BX wr (unhide F)
            have u5 := fcell Y9 5 _ rfl
            clear Y9
            by_cases hjn : j < n2
            · have y1 : (j : Int) < (n2 : Int) := by omega
              have y2 : ¬ (j : Int) < 200 := by omega
              go_wp2_with (first
                | (go_at_call 26
                   refine (unhide RA).mono ?_
                   rintro r V1 ⟨rfl, h1, b1⟩
                   have F1 := hide ((unhide F).trans b1)
                   have Y1 := unhide BX V1 (unhide F1)
                   have u1 := fcell Y1 1 _ rfl
                   have RD := hide (vread_yes h1 x.name (unhide SN) ⟨true, x.bs, []⟩ (by rw [unhide HK]; exact far_crash x.keep x.bs _ 0 (unhide G)))
                   rw [show (Sp.mk true x.bs []).now = x.bs from rfl] at RD
                   clear h1 b1 Y1)
                | (go_at_call 17
                   refine (unhide RD).mono ?_
                   rintro r V2 ⟨rp, rn, rfl, hrn, h8, hX8, b8⟩
                   have X8 := hide hX8.bytes
                   have HRN := hide hrn
                   have F2 := hide ((unhide F1).trans (b8.mono (unhide F1).size))
                   have LV := hide (live5_calls V2)
                   clear b8 hX8 hrn)
                | (go_at_call 19
                   refine (unhide LV).mono ?_
                   rintro r V3 ⟨rfl, b9⟩
                   have F3 := hide ((unhide F2).trans (b9.mono (unhide F2).size))
                   have G9 := hide (unhide XE V2 V3 (unhide F2) b9)
                   have Y3 := unhide BX V3 (unhide F3)
                   have u4 := fcell Y3 4 _ rfl
                   have c1 := run_string8 rn rn (unhide HRN) ((unhide X8).later b9)
                   have c2 := run_string8 x.bs.length xq.bc rfl ((unhide HX).at_ V3 (unhide F3)).by_
                   clear b9 Y3))
              go_ret
              exact ⟨rfl, unhide G9⟩
            · have y1 : ¬ (j : Int) < (n2 : Int) := by omega
              go_wp2_with (first
                | (go_at_call 26
                   refine (unhide RA).mono ?_
                   rintro r V1 ⟨rfl, h1, b1⟩
                   have F1 := hide ((unhide F).trans b1)
                   have Y1 := unhide BX V1 (unhide F1)
                   have u1 := fcell Y1 1 _ rfl
                   have RD := hide (vread_yes h1 x.name (unhide SN) ⟨true, x.bs, []⟩ (by rw [unhide HK]; exact far_crash x.keep x.bs _ 0 (unhide G)))
                   rw [show (Sp.mk true x.bs []).now = x.bs from rfl] at RD
                   clear h1 b1 Y1)
                | (go_at_call 17
                   refine (unhide RD).mono ?_
                   rintro r V2 ⟨rp, rn, rfl, hrn, h8, hX8, b8⟩
                   have X8 := hide hX8.bytes
                   have HRN := hide hrn
                   have F2 := hide ((unhide F1).trans (b8.mono (unhide F1).size))
                   have LV := hide (live5_calls V2)
                   clear b8 hX8 hrn)
                | (go_at_call 19
                   refine (unhide LV).mono ?_
                   rintro r V3 ⟨rfl, b9⟩
                   have F3 := hide ((unhide F2).trans (b9.mono (unhide F2).size))
                   have G9 := hide (unhide XE V2 V3 (unhide F2) b9)
                   have Y3 := unhide BX V3 (unhide F3)
                   have u4 := fcell Y3 4 _ rfl
                   have c1 := run_string8 rn rn (unhide HRN) ((unhide X8).later b9)
                   have c2 := run_string8 x.bs.length xq.bc rfl ((unhide HX).at_ V3 (unhide F3)).by_
                   clear b9 Y3))
              go_ret
              exact ⟨rfl, unhide G9⟩
      · have ys : ((qs : Int) == 0) = false := by simp; omega
        go_wp2_with (first
          | (go_at_call 14
             refine (unhide SC W0).mono ?_
             rintro e W1 ⟨rfl, b1⟩
             have F1 := hide ((unhide F0).trans (b1.mono (unhide F0).size))
             have Y1 := unhide BX W1 (unhide F1)
             have e1 := fcell Y1 1 _ rfl
             have e4 := fcell Y1 4 _ rfl
             have RC := hide (vremove_calls ((unhide H0).later b1) x.name (unhide SN))
             clear b1 Y1)
          | (go_at_call 21
             refine (unhide RC).mono ?_
             rintro e W2 ⟨rfl, h2, b2⟩
             have F2 := hide ((unhide F1).trans b2)
             have Y2 := unhide BX W2 (unhide F2)
             have g1 := fcell Y2 1 _ rfl
             have g4 := fcell Y2 4 _ rfl
             have WC := hide (vwrite_calls h2 hN1 x.name (unhide SN) 0 (by omega) xq.bp x.bs.length xq.bc x.bs rfl ((unhide HX).at_ W2 (unhide F2)).bcap ((unhide HX).at_ W2 (unhide F2)).by_ ((unhide HX).at_ W2 (unhide F2)).bz (unhide HX).lb (by omega))
             clear h2 b2 Y2)
          | (go_at_call 22
             refine (unhide WC).mono ?_
             rintro e W3 ⟨he, h3, b3⟩
             rw [hqw] at he
             subst he
             have F3 := hide ((unhide F2).trans b3)
             have Y3 := unhide BX W3 (unhide F3)
             have i1 := fcell Y3 1 _ rfl
             have SY := hide (vsync_calls h3 x.name (unhide SN))
             have LV := hide (live5_calls W3)
             clear h3 b3 Y3)
          | (go_at_call 23
             refine (unhide SY).mono ?_
             rintro e W4 ⟨he, h4, b4⟩
             rw [hqs] at he
             subst he
             have F4 := hide ((unhide F3).trans b4)
             have H4 := hide h4
             have LV := hide (live5_calls W4)
             clear h4 b4)
          | (go_at_call 19
             refine (unhide LV).mono ?_
             rintro e V9 ⟨rfl, b9⟩
             have G9 := hide (unhide XE W4 V9 (unhide F4) b9)
             clear b9))
        go_ret
        exact ⟨rfl, unhide G9⟩
    · have yw : ((qw : Int) == 0) = false := by simp; omega
      go_wp2_with (first
        | (go_at_call 14
           refine (unhide SC W0).mono ?_
           rintro e W1 ⟨rfl, b1⟩
           have F1 := hide ((unhide F0).trans (b1.mono (unhide F0).size))
           have Y1 := unhide BX W1 (unhide F1)
           have e1 := fcell Y1 1 _ rfl
           have e4 := fcell Y1 4 _ rfl
           have RC := hide (vremove_calls ((unhide H0).later b1) x.name (unhide SN))
           clear b1 Y1)
        | (go_at_call 21
           refine (unhide RC).mono ?_
           rintro e W2 ⟨rfl, h2, b2⟩
           have F2 := hide ((unhide F1).trans b2)
           have Y2 := unhide BX W2 (unhide F2)
           have g1 := fcell Y2 1 _ rfl
           have g4 := fcell Y2 4 _ rfl
           have WC := hide (vwrite_calls h2 hN1 x.name (unhide SN) 0 (by omega) xq.bp x.bs.length xq.bc x.bs rfl ((unhide HX).at_ W2 (unhide F2)).bcap ((unhide HX).at_ W2 (unhide F2)).by_ ((unhide HX).at_ W2 (unhide F2)).bz (unhide HX).lb (by omega))
           clear h2 b2 Y2)
        | (go_at_call 22
           refine (unhide WC).mono ?_
           rintro e W3 ⟨he, h3, b3⟩
           rw [hqw] at he
           subst he
           have F3 := hide ((unhide F2).trans b3)
           have Y3 := unhide BX W3 (unhide F3)
           have i1 := fcell Y3 1 _ rfl
           have SY := hide (vsync_calls h3 x.name (unhide SN))
           have LV := hide (live5_calls W3)
           clear h3 b3 Y3)
        | (go_at_call 19
           refine (unhide LV).mono ?_
           rintro e V9 ⟨rfl, b9⟩
           have G9 := hide (unhide XE W3 V9 (unhide F3) b9)
           clear b9))
      go_ret
      exact ⟨rfl, unhide G9⟩

set_option maxRecDepth 100000 in
theorem lifted (os : Os) (started : os.Started) (H : Type) (enc : TypeId × Value → H) :
    ReturnsInHanded {} Try.checked os 4 .any (Rows.diskSyncedSpec.pre6 enc Try.prog Try.f4 Rows.diskSyncedRow.domain false) (Rows.diskSyncedSpec.post enc Try.prog Try.f4 false true false false) := by
  refine returnsInHanded_of_change_sized (C := Try.checked) own started (by kernel_rfl) Try.func4
    (ChangeSpec.witness6 (enc := enc) (C := Try.checked) false ⟨#[], #[.slice none 0 0, .slice none 0 0, .agg #[.int .i64 0, .string ⟨#[]⟩, .string ⟨#[]⟩, .int .i64 0, .slice none 0 0, .slice none 0 0]], []⟩ 8 (by kernel_rfl) (by kernel_rfl) (by kernel_rfl) (by kernel_rfl)) ?_
  intro W base args ds gs before hval0 hW hcnd hsz _
  have hval : ∀ (j : Nat) t v, Try.f4.params[j]? = some t → args[j]? = some v → Value.okWide Try.prog W .any base t v := hval0
  have hW' := hW
  obtain ⟨p, q, hA0, hV, rfl, hfz, hnd⟩ := hW
  have hA : DataW.TrodAll enc Try.prog W 0 (fun _ => true) true Try.f4.params.toList args.toList ds p := hA0
  rw [Try.params4] at hA hval
  obtain ⟨v0, vs0, d0, ds0, p0, q0, hargs, rfl, rfl, h0, r0⟩ := trodAll_cons hA
  obtain ⟨v1, vs1, d1, ds1, p1, q1, rfl, rfl, rfl, h1, r1⟩ := trodAll_cons r0
  obtain ⟨v2, vs2, d2, ds2, p2, q2, rfl, rfl, rfl, h2, r2⟩ := trodAll_cons r1
  obtain ⟨rfl, rfl, rfl⟩ := trodAll_nil r2
  obtain rfl : args = #[v0, v1, v2] := by cases args; simp_all
  obtain ⟨rfl, rfl⟩ := trodVars_none hV
  obtain ⟨a0, len0, c0, rfl⟩ := okWide_slice Try.underlying22 (hval 0 22 v0 rfl rfl)
  have k0 := h0
  have lt0 : ∀ x ∈ p0, x.block < W.heap.size := by obtain ⟨m, hm⟩ := k0; exact DataW.trod_lt m _ _ _ hm
  obtain ⟨l0, rfl, hx0, hb0⟩ := ddeeds_arg h0
  obtain ⟨a1, len1, c1, rfl⟩ := okWide_slice Try.underlying22 (hval 1 22 v1 rfl rfl)
  have k1 := h1
  have lt1 : ∀ x ∈ p1, x.block < W.heap.size := by obtain ⟨m, hm⟩ := k1; exact DataW.trod_lt m _ _ _ hm
  obtain ⟨l1, rfl, hx1, hb1⟩ := ddeeds_arg h1
  have k2 := h2
  have lt2 : ∀ x ∈ p2, x.block < W.heap.size := by obtain ⟨m, hm⟩ := k2; exact DataW.trod_lt m _ _ _ hm
  obtain ⟨e2, q2, rfl, hb2⟩ := open_de (hval 2 31 v2 rfl rfl) h2
  clear hA0 hval0
  refine (walk a0 c0 l0 a1 c1 l1 e2 q2 W hx0 hb0 hx1 hb1 hb2).mono fun e W' ⟨he, bel⟩ => ?_
  subst he
  exact ⟨_, rfl, _, _, _, [], _, [], hW', trodAll_mk1 (shut_bool Try.underlying4 _), (trodAll_cons_mk (Below.trod laidOut (by kernel_rfl) (of_decide_eq_true (by kernel_rfl)) k0 bel lt0) (trodAll_cons_mk (Below.trod laidOut (by kernel_rfl) (of_decide_eq_true (by kernel_rfl)) k1 bel lt1) (trodAll_cons_mk (Below.trod laidOut (by kernel_rfl) (of_decide_eq_true (by kernel_rfl)) k2 bel lt2) trodAll_mk0))), rfl, bel.frame _, fun h => by cases h⟩

theorem proved : Rows.DiskSyncedSaid :=
  OpenClaim.holds_of_wide 4 Try.f4 rfl rfl rfl rfl rfl rfl rfl ⟨rfl, rfl, rfl, rfl, rfl⟩ rfl rfl rfl rfl rfl (by kernel_rfl) Try.func4 (by kernel_rfl)
    (of_decide_eq_true (by kernel_rfl)) (by unfold Func.isWrapper; first | (rw [if_pos (by decide +kernel)]; kernel_rfl) | (rw [if_neg (by decide +kernel)]; exact ⟨rfl, rfl⟩))
    (fun os started H enc _ => lifted os started H enc)
end Go.Proofs.Ytinmfbellefbhaa.diskSynced
namespace Go.Proofs.Ytinmfbellefbhaa
theorem diskSynced_holds : Rows.DiskSyncedSaid := diskSynced.proved
#print axioms diskSynced_holds
end Go.Proofs.Ytinmfbellefbhaa
