/- Conf: act. -/
import Derived.Test.YtjcjleaicjhpeaaGreatDoorB18
import Derived.Test.YtjcjleaicjhpeaaGreatDoorB19
import Derived.BigQuiet
section
namespace Go.Proofs.YtjcjleaicjhpeaaGreatDoor
open Go.ChangeShapes Go.WideShapes Go.ChangeAt Go.RowKit
set_option linter.unusedVariables false

/-- A command whose texts are few. -/
structure SmallCmd (c : Cmd) : Prop where
  h : c.host.size ≤ 1000000
  p : c.pre.size ≤ 1000000
  l : c.pool.size ≤ 1000000
  n : c.ts.length ≤ 100
  t : ∀ t ∈ c.ts, t.1.size ≤ 1000000
/-- What an act comes to; a', tc': where the pool's targets lie. -/
def actS (c : Cmd) (a' : Option Addr) (tc' : Nat) (x : Sm) : Int × Sm :=
  if 0 ≤ c.exp ∧ c.exp ≠ x.ver then (12, x)
  else if c.act = 1 then putPS ⟨⟨c.pool, c.ts⟩, a', tc'⟩ x
  else if c.act = 2 then dropPS c.pool x
  else if c.act = 3 then putRS ⟨c.host, c.pre, c.pool⟩ x
  else dropRS (c.host, c.pre) x
set_option maxRecDepth 20000 in
set_option maxHeartbeats 8000000 in
theorem act_calls {w : World} {h : StH} {x : Sm} (s : StAt w h x) (hx : SmOk x) (c : Cmd) (a : Option Addr) (tc : Nat) (hc : CmdAt w c a tc) (hs : SmallCmd c) :
    Calls Tryz.prog 81 #[.pointer (some ⟨h.S, 0, none⟩), cmdVal c a tc] w fun e w' => ∃ a' tc', e = .returned (.int .i64 (actS c a' tc' x).1) ∧ StAt w' h (actS c a' tc' x).2 ∧ Chg h w w' := by
  have AS := hide (show ∀ a' tc', actS c a' tc' x = (if 0 ≤ c.exp ∧ c.exp ≠ x.ver then (12, x)
    else if c.act = 1 then putPS ⟨⟨c.pool, c.ts⟩, a', tc'⟩ x
    else if c.act = 2 then dropPS c.pool x
    else if c.act = 3 then putRS ⟨c.host, c.pre, c.pool⟩ x
    else dropRS (c.host, c.pre) x) from fun _ _ => rfl)
  obtain ⟨v1, v2⟩ := hx.ver
  obtain ⟨e1, e2⟩ := hc.ie
  obtain ⟨i1, i2⟩ := hc.ia
  have HT := hide hc.tgs
  obtain ⟨z1, z2, z3, z4, z5⟩ := hs
  unfold cmdVal
  generalize hact : actS c = AA at *
  obtain ⟨act, cli, seq, exp, host, pre, pool, ts⟩ := c
  simp only at *
  clear hc
  have b1 := hide (show Below w.heap.size w (w.alloc (.cells #[.int .i64 act, .int .i64 cli, .int .i64 seq, .int .i64 exp, .string host, .string pre, .string pool, .slice a ts.length tc] 33)) from (Below.refl _ _).alloc (Nat.le_refl _) _)
  have X1 := hide (heap_new w (.cells #[.int .i64 act, .int .i64 cli, .int .i64 seq, .int .i64 exp, .string host, .string pre, .string pool, .slice a ts.length tc] 33))
  have k0 := fcell0 (unhide X1) 0 _ rfl
  have k3 := fcell0 (unhide X1) 3 _ rfl
  have k4 := fcell0 (unhide X1) 4 _ rfl
  have k5 := fcell0 (unhide X1) 5 _ rfl
  have k6 := fcell0 (unhide X1) 6 _ rfl
  have k7 := fcell0 (unhide X1) 7 _ rfl
  have st := s.later (unhide b1)
  have s0 := st.cell.1
  have ST := hide st
  clear st
  go_enter Tryz.func81, Tryz.ntmps81
  go_wp2_with fail
  generalize hB : w.heap.size = B at *
  generalize w.alloc (.cells #[.int .i64 act, .int .i64 cli, .int .i64 seq, .int .i64 exp, .string host, .string pre, .string pool, .slice a ts.length tc] 33) = V at *
  have BV := hide (show B < V.heap.size from (Array.getElem?_eq_some_iff.1 (unhide X1)).1)
  have HK := hide (show ∀ W : World, Below V.heap.size V W → W.cell? ⟨B, 0, none⟩ = some (.int .i64 act) ∧ W.cell? ⟨B, 4, none⟩ = some (.string host) ∧ W.cell? ⟨B, 5, none⟩ = some (.string pre) ∧ W.cell? ⟨B, 6, none⟩ = some (.string pool) ∧ W.cell? ⟨B, 7, none⟩ = some (.slice a ts.length tc) from fun W hb => ⟨cell_later hb k0, cell_later hb k4, cell_later hb k5, cell_later hb k6, cell_later hb k7⟩)
  clear k0 k4 k5 k6 k7
  generalize hv : x.ver = ver at *
  have HV := hide hv
  clear hv
  by_cases hge : 0 ≤ exp
  · have q1 : decide (0 ≤ exp) = true := decide_eq_true hge
    by_cases hne : exp = ver
    · as_aux_lemma =>
      subst hne
      have NG := hide (show ¬ (0 ≤ exp ∧ exp ≠ exp) from fun e => e.2 rfl)
      go_quiet (fail)
      have BN : ∀ k, Below V.heap.size V (V.drewN k) := fun k => ⟨(Below.refl V.heap.size V).os, (Below.refl V.heap.size V).tape, (Below.refl V.heap.size V).output, (Below.refl V.heap.size V).size, (Below.refl V.heap.size V).block⟩
      generalize hVN : V.drewN _ = W1
      have F := hide (show Below V.heap.size V W1 from hVN ▸ BN _)
      clear BN hVN
      have b2 := hide (show Below w.heap.size w W1 by rw [hB]; exact (unhide b1).trans ((unhide F).mono (by have := (unhide b1).size; omega)))
      obtain ⟨k0, k4, k5, k6, k7⟩ := unhide HK _ (unhide F)
      by_cases h1 : act = 1
      · as_aux_lemma =>
        subst h1
        have hd : ∀ a' c', AA a' c' x = putPS ⟨⟨pool, ts⟩, a', c'⟩ x := fun a' c' => by rw [unhide AS, if_neg (unhide NG), if_pos rfl]
        have HD := hide hd
        clear hd AS
        go_wp2_with fail
        have G := hide (show Below W1.heap.size W1 W1.drew from (Below.refl _ _).drew)
        have F := hide ((unhide F).trans ((unhide G).mono (unhide F).size))
        refine wp_region_held_drew (S := fun w' => w'.cell? ⟨B, 6, none⟩ = some (.string pool) ∧ w'.cell? ⟨B, 7, none⟩ = some (.slice a ts.length tc)) (by kernel_rfl) ?_ (fun hHeld => ?_)
        · try dsimp only
          first | exact unhide KC | exact ⟨(unhide HK _ (unhide F)).2.2.2.1, (unhide HK _ (unhide F)).2.2.2.2⟩
        refine hT 0 ?_
        refine hT 1 ?_
        refine hT 2 ?_
        refine hT 3 ?_
        refine hT 4 ?_
        refine wpAnyH_ready (rs := [5]) (by kernel_rfl) (by simp) ?_
        refine AllReadyH.cons rfl (fun K hK => ?_) ?_
        · go_simp
          go_at_call 85
          refine (cloneT_calls _ a tc ts ((unhide HT).later ((unhide b2).trans ((unhide G).mono (unhide b2).size))) (by omega)).mono ?_
          rintro e U ⟨a', c', rfl, ho, hb⟩
          have F := hide ((unhide F).trans (hb.mono (unhide F).size))
          have G := hide ((unhide G).trans (hb.mono (unhide G).size))
          have TA := hide (ho.at_ (unhide HT).lt)
          clear ho hb
          go_wp2_with fail
          refine hK.out _ _ ?_ (fun hHeld => ?_)
          · try dsimp only
            first | exact unhide KC | exact ⟨(unhide HK _ (unhide F)).2.2.2.1, (unhide HK _ (unhide F)).2.2.2.2⟩
          clear hK K
          refine hP ?_
          refine hT 6 ?_
          refine wpAnyH_ready (rs := [7]) (by kernel_rfl) (by simp) ?_
          refine AllReadyH.cons rfl (fun K hK => ?_) ?_
          · go_simp
            go_at_call 138
            refine (putPool_calls (s.later ((unhide b2).trans ((unhide G).mono (unhide b2).size))) hx pool ts a' c' (unhide TA) z3 ⟨z4, z5⟩).mono ?_
            rintro e U2 ⟨rfl, sd, cd⟩
            have KC := hide (show U2.cell? ⟨B, 6, none⟩ = some (.string pool) ∧ U2.cell? ⟨B, 7, none⟩ = some (.slice a ts.length tc) by
              obtain ⟨t1, t2, t3, t4⟩ := s.lts
              obtain ⟨_, _, _, q6, q7⟩ := unhide HK _ (unhide F)
              have hk : U2.heap[B]? = U.heap[B]? := cd.block B (by have := (unhide F).size; have := unhide BV; omega) (by omega) (by omega) (by omega) (by omega)
              exact ⟨(World.cell?_of_block hk).trans q6, (World.cell?_of_block hk).trans q7⟩)
            have SD := hide sd
            have CD := hide ((Chg.below (h := h) ((unhide b2).trans ((unhide G).mono (unhide b2).size))).trans cd)
            clear sd cd
            go_wp2_with fail
            refine hK.out _ _ ?_ (fun hHeld => ?_)
            · try dsimp only
              first | exact unhide KC | exact ⟨(unhide HK _ (unhide F)).2.2.2.1, (unhide HK _ (unhide F)).2.2.2.2⟩
            clear hK K
            refine hP ?_
            refine hT 8 ?_
            refine wpAnyH_done (by kernel_rfl) ?_ _
            go_wp2
            go_ret
            exact ⟨a', c', by rw [unhide HD]; rfl, by rw [unhide HD]; exact unhide SD, unhide CD⟩
          exact AllReadyH.nil
        exact AllReadyH.nil
      · by_cases h2 : act = 2
        · as_aux_lemma =>
          subst h2
          have hd : AA none 0 x = dropPS pool x := by rw [unhide AS, if_neg (unhide NG), if_neg h1, if_pos rfl]
          have DP := hide (dropPool_calls (s.later (unhide b2)) pool (by simp only [maxLen]; omega))
          have HD := hide hd
          clear hd AS h1
          go_wp2_with fail
          refine (unhide DP).mono ?_
          rintro e U2 ⟨rfl, sd, cd⟩
          have SD := hide sd
          have CD := hide ((Chg.below (h := h) (unhide b2)).trans cd)
          clear sd cd DP
          go_wp2
          go_ret
          exact ⟨none, 0, by rw [unhide HD]; rfl, by rw [unhide HD]; exact unhide SD, unhide CD⟩
        · by_cases h3 : act = 3
          · as_aux_lemma =>
            subst h3
            have hd : AA none 0 x = putRS ⟨host, pre, pool⟩ x := by rw [unhide AS, if_neg (unhide NG), if_neg h1, if_neg h2, if_pos rfl]
            have DP := hide (putRoute_calls (s.later (unhide b2)) hx host pre pool ⟨z1, z2, z3⟩)
            have HD := hide hd
            clear hd AS h1 h2
            go_wp2_with fail
            refine (unhide DP).mono ?_
            rintro e U2 ⟨rfl, sd, cd⟩
            have SD := hide sd
            have CD := hide ((Chg.below (h := h) (unhide b2)).trans cd)
            clear sd cd DP
            go_wp2
            go_ret
            exact ⟨none, 0, by rw [unhide HD]; rfl, by rw [unhide HD]; exact unhide SD, unhide CD⟩
          · as_aux_lemma =>
            have hd : AA none 0 x = dropRS (host, pre) x := by rw [unhide AS, if_neg (unhide NG), if_neg h1, if_neg h2, if_neg h3]
            have DP := hide (dropRoute_calls (s.later (unhide b2)) (host, pre) (by simp only [maxLen]; omega))
            have HD := hide hd
            clear hd AS
            go_wp2_with fail
            refine (unhide DP).mono ?_
            rintro e U2 ⟨rfl, sd, cd⟩
            have SD := hide sd
            have CD := hide ((Chg.below (h := h) (unhide b2)).trans cd)
            clear sd cd DP
            go_wp2
            go_ret
            exact ⟨none, 0, by rw [unhide HD]; rfl, by rw [unhide HD]; exact unhide SD, unhide CD⟩
    · as_aux_lemma =>
      have q2 : decide (exp = ver) = false := decide_eq_false hne
      have hd : ∀ a' c', AA a' c' x = (12, x) := fun a' c' => by rw [unhide AS, if_pos ⟨hge, hne⟩]
      have HD := hide hd
      clear hd
      go_quiet (fail)
      have BN : ∀ k, Below V.heap.size V (V.drewN k) := fun k => ⟨(Below.refl V.heap.size V).os, (Below.refl V.heap.size V).tape, (Below.refl V.heap.size V).output, (Below.refl V.heap.size V).size, (Below.refl V.heap.size V).block⟩
      generalize hVN : V.drewN _ = W1
      have F := hide (show Below V.heap.size V W1 from hVN ▸ BN _)
      clear BN hVN

      have b2 := hide (show Below w.heap.size w W1 by rw [hB]; exact (unhide b1).trans ((unhide F).mono (by have := (unhide b1).size; omega)))
      have SD := hide (s.later (unhide b2))
      have CD := hide (Chg.below (h := h) (unhide b2))
      clear AS
      go_wp2
      go_ret
      exact ⟨none, 0, by rw [unhide HD]; rfl, by rw [unhide HD]; exact unhide SD, unhide CD⟩
  · as_aux_lemma =>
    have q1 : decide (0 ≤ exp) = false := decide_eq_false hge
    have NG := hide (show ¬ (0 ≤ exp ∧ exp ≠ ver) from fun e => hge e.1)
    go_quiet (fail)
    have BN : ∀ k, Below V.heap.size V (V.drewN k) := fun k => ⟨(Below.refl V.heap.size V).os, (Below.refl V.heap.size V).tape, (Below.refl V.heap.size V).output, (Below.refl V.heap.size V).size, (Below.refl V.heap.size V).block⟩
    generalize hVN : V.drewN _ = W1
    have F := hide (show Below V.heap.size V W1 from hVN ▸ BN _)
    clear BN hVN
    have b2 := hide (show Below w.heap.size w W1 by rw [hB]; exact (unhide b1).trans ((unhide F).mono (by have := (unhide b1).size; omega)))
    obtain ⟨k0, k4, k5, k6, k7⟩ := unhide HK _ (unhide F)
    by_cases h1 : act = 1
    · as_aux_lemma =>
      subst h1
      have hd : ∀ a' c', AA a' c' x = putPS ⟨⟨pool, ts⟩, a', c'⟩ x := fun a' c' => by rw [unhide AS, if_neg (unhide NG), if_pos rfl]
      have HD := hide hd
      clear hd AS
      go_wp2_with fail
      have G := hide (show Below W1.heap.size W1 W1.drew from (Below.refl _ _).drew)
      have F := hide ((unhide F).trans ((unhide G).mono (unhide F).size))
      refine wp_region_held_drew (S := fun w' => w'.cell? ⟨B, 6, none⟩ = some (.string pool) ∧ w'.cell? ⟨B, 7, none⟩ = some (.slice a ts.length tc)) (by kernel_rfl) ?_ (fun hHeld => ?_)
      · try dsimp only
        first | exact unhide KC | exact ⟨(unhide HK _ (unhide F)).2.2.2.1, (unhide HK _ (unhide F)).2.2.2.2⟩
      refine hT 0 ?_
      refine hT 1 ?_
      refine hT 2 ?_
      refine hT 3 ?_
      refine hT 4 ?_
      refine wpAnyH_ready (rs := [5]) (by kernel_rfl) (by simp) ?_
      refine AllReadyH.cons rfl (fun K hK => ?_) ?_
      · go_simp
        go_at_call 85
        refine (cloneT_calls _ a tc ts ((unhide HT).later ((unhide b2).trans ((unhide G).mono (unhide b2).size))) (by omega)).mono ?_
        rintro e U ⟨a', c', rfl, ho, hb⟩
        have F := hide ((unhide F).trans (hb.mono (unhide F).size))
        have G := hide ((unhide G).trans (hb.mono (unhide G).size))
        have TA := hide (ho.at_ (unhide HT).lt)
        clear ho hb
        go_wp2_with fail
        refine hK.out _ _ ?_ (fun hHeld => ?_)
        · try dsimp only
          first | exact unhide KC | exact ⟨(unhide HK _ (unhide F)).2.2.2.1, (unhide HK _ (unhide F)).2.2.2.2⟩
        clear hK K
        refine hP ?_
        refine hT 6 ?_
        refine wpAnyH_ready (rs := [7]) (by kernel_rfl) (by simp) ?_
        refine AllReadyH.cons rfl (fun K hK => ?_) ?_
        · go_simp
          go_at_call 138
          refine (putPool_calls (s.later ((unhide b2).trans ((unhide G).mono (unhide b2).size))) hx pool ts a' c' (unhide TA) z3 ⟨z4, z5⟩).mono ?_
          rintro e U2 ⟨rfl, sd, cd⟩
          have KC := hide (show U2.cell? ⟨B, 6, none⟩ = some (.string pool) ∧ U2.cell? ⟨B, 7, none⟩ = some (.slice a ts.length tc) by
            obtain ⟨t1, t2, t3, t4⟩ := s.lts
            obtain ⟨_, _, _, q6, q7⟩ := unhide HK _ (unhide F)
            have hk : U2.heap[B]? = U.heap[B]? := cd.block B (by have := (unhide F).size; have := unhide BV; omega) (by omega) (by omega) (by omega) (by omega)
            exact ⟨(World.cell?_of_block hk).trans q6, (World.cell?_of_block hk).trans q7⟩)
          have SD := hide sd
          have CD := hide ((Chg.below (h := h) ((unhide b2).trans ((unhide G).mono (unhide b2).size))).trans cd)
          clear sd cd
          go_wp2_with fail
          refine hK.out _ _ ?_ (fun hHeld => ?_)
          · try dsimp only
            first | exact unhide KC | exact ⟨(unhide HK _ (unhide F)).2.2.2.1, (unhide HK _ (unhide F)).2.2.2.2⟩
          clear hK K
          refine hP ?_
          refine hT 8 ?_
          refine wpAnyH_done (by kernel_rfl) ?_ _
          go_wp2
          go_ret
          exact ⟨a', c', by rw [unhide HD]; rfl, by rw [unhide HD]; exact unhide SD, unhide CD⟩
        exact AllReadyH.nil
      exact AllReadyH.nil
    · by_cases h2 : act = 2
      · as_aux_lemma =>
        subst h2
        have hd : AA none 0 x = dropPS pool x := by rw [unhide AS, if_neg (unhide NG), if_neg h1, if_pos rfl]
        have DP := hide (dropPool_calls (s.later (unhide b2)) pool (by simp only [maxLen]; omega))
        have HD := hide hd
        clear hd AS h1
        go_wp2_with fail
        refine (unhide DP).mono ?_
        rintro e U2 ⟨rfl, sd, cd⟩
        have SD := hide sd
        have CD := hide ((Chg.below (h := h) (unhide b2)).trans cd)
        clear sd cd DP
        go_wp2
        go_ret
        exact ⟨none, 0, by rw [unhide HD]; rfl, by rw [unhide HD]; exact unhide SD, unhide CD⟩
      · by_cases h3 : act = 3
        · as_aux_lemma =>
          subst h3
          have hd : AA none 0 x = putRS ⟨host, pre, pool⟩ x := by rw [unhide AS, if_neg (unhide NG), if_neg h1, if_neg h2, if_pos rfl]
          have DP := hide (putRoute_calls (s.later (unhide b2)) hx host pre pool ⟨z1, z2, z3⟩)
          have HD := hide hd
          clear hd AS h1 h2
          go_wp2_with fail
          refine (unhide DP).mono ?_
          rintro e U2 ⟨rfl, sd, cd⟩
          have SD := hide sd
          have CD := hide ((Chg.below (h := h) (unhide b2)).trans cd)
          clear sd cd DP
          go_wp2
          go_ret
          exact ⟨none, 0, by rw [unhide HD]; rfl, by rw [unhide HD]; exact unhide SD, unhide CD⟩
        · as_aux_lemma =>
          have hd : AA none 0 x = dropRS (host, pre) x := by rw [unhide AS, if_neg (unhide NG), if_neg h1, if_neg h2, if_neg h3]
          have DP := hide (dropRoute_calls (s.later (unhide b2)) (host, pre) (by simp only [maxLen]; omega))
          have HD := hide hd
          clear hd AS
          go_wp2_with fail
          refine (unhide DP).mono ?_
          rintro e U2 ⟨rfl, sd, cd⟩
          have SD := hide sd
          have CD := hide ((Chg.below (h := h) (unhide b2)).trans cd)
          clear sd cd DP
          go_wp2
          go_ret
          exact ⟨none, 0, by rw [unhide HD]; rfl, by rw [unhide HD]; exact unhide SD, unhide CD⟩
end Go.Proofs.YtjcjleaicjhpeaaGreatDoor
end
/- Conf: done. -/
section
namespace Go.Proofs.YtjcjleaicjhpeaaGreatDoor
open Go.ChangeShapes Go.WideShapes Go.ChangeAt Go.RowKit
set_option linter.unusedVariables false

def doneS (r : Int × Sm) : (Int × Int) × Sm := if r.1 = 0 then ((0, r.2.ver + 1), { r.2 with ver := r.2.ver + 1 }) else ((r.1, r.2.ver), r.2)
theorem actS_ver (c : Cmd) (a' : Option Addr) (tc' : Nat) (x : Sm) : (actS c a' tc' x).2.ver = x.ver := by
  unfold actS putPS dropPS putRS dropRS
  repeat' split
  all_goals rfl
theorem actS_err (c : Cmd) (a' : Option Addr) (tc' : Nat) (x : Sm) : 0 ≤ (actS c a' tc' x).1 ∧ (actS c a' tc' x).1 ≤ 13 := by
  unfold actS putPS dropPS putRS dropRS
  repeat' split
  all_goals simp
theorem StAt.aside {w w' : World} {h : StH} {x : Sm} (s : StAt w h x) {r : Nat} {cs : Array Value} {T : TypeId} (hg : w.grownBy w' (some r)) (hr : w.heap[r]? = some (.cells cs T (0, 0))) (hcs : ∀ (k : Nat) (t : ByteArray), cs[k]? ≠ some (Value.string t)) (hS : h.S ≠ r) : StAt w' h x := by
  have nm : ∀ (g : Nat) (es : Array MapEntry) (k : Nat), w.heap[g]? = some (Obj.map es k) → w'.heap[g]? = w.heap[g]? := fun g es k hm => hg.block g (Array.getElem?_eq_some_iff.1 hm).1 (fun e => by
    have := Option.some.inj e
    subst this
    rw [hr] at hm
    cases hm)
  obtain ⟨e1, k1, m1⟩ := s.pm.isMap
  obtain ⟨e2, k2, m2⟩ := s.rm.isMap
  obtain ⟨e3, k3, m3⟩ := s.cm.isMap
  refine ⟨(hg.block h.S (Array.getElem?_eq_some_iff.1 s.hd).1 (fun e => hS (Option.some.inj e))).trans s.hd, s.pm.same (nm _ _ _ m1), s.rm.same (nm _ _ _ m2), s.cm.same (nm _ _ _ m3), fun p hp => ⟨(s.tg p hp).lt, fun i hi => ?_⟩, s.ne⟩
  obtain ⟨b, off, e, h1, h2⟩ := (s.tg p hp).cell i hi
  have hb : b < w.heap.size := (s.noText h1).1
  have hne : b ≠ r := fun e => by
    subst e
    rw [cell_of_row _ _ _ _ _ _ hr] at h1
    exact hcs _ _ h1
  have hk := hg.block b hb (fun e => hne (Option.some.inj e))
  exact ⟨b, off, e, (World.cell?_of_block hk).trans h1, (World.cell?_of_block hk).trans h2⟩
theorem Chg.newer {h : StH} {w w1 w2 : World} {r : Nat} (c : Chg h w w1) (hg : w1.grownBy w2 (some r)) (hr : w.heap.size ≤ r) : Chg h w w2 :=
  ⟨hg.os.trans c.os, hg.tape.trans c.tape, hg.output.trans c.output, Nat.le_trans c.size hg.size, fun g hl h1 h2 h3 h4 => (hg.block g (Nat.lt_of_lt_of_le hl c.size) (fun e => by have := Option.some.inj e; omega)).trans (c.block g hl h1 h2 h3 h4)⟩
theorem res_text (a b : Int) : ∀ (k : Nat) (t : ByteArray), (#[Value.int .i64 a, Value.int .i64 b] : Array Value)[k]? ≠ some (.string t) := by
  intro k t e
  match k with
  | 0 => simp at e
  | 1 => simp at e
  | _ + 2 => simp at e
set_option maxRecDepth 20000 in
set_option maxHeartbeats 8000000 in
theorem done_calls {w : World} {h : StH} {x : Sm} (s : StAt w h x) (hx : SmOk x) (hv : x.ver + 1 ≤ 9223372036854775807) (c : Cmd) (a : Option Addr) (tc : Nat) (hc : CmdAt w c a tc) (hs : SmallCmd c) :
    Calls Tryz.prog 40 #[.pointer (some ⟨h.S, 0, none⟩), cmdVal c a tc] w fun e w' => ∃ a' tc', e = .returned (.agg #[.int .i64 (doneS (actS c a' tc' x)).1.1, .int .i64 (doneS (actS c a' tc' x)).1.2]) ∧ StAt w' h (doneS (actS c a' tc' x)).2 ∧ Chg h w w' := by
  have b1 : Below w.heap.size w (w.alloc (.cells (cmdRow c a tc) 33)) := (Below.refl _ _).alloc (Nat.le_refl _) _
  have b2 := b1.alloc b1.size (.cells #[.int .i64 0, .int .i64 0] 38)
  have s1 : (w.alloc (.cells (cmdRow c a tc) 33)).heap.size = w.heap.size + 1 := by simp
  have X1 := hide (show ((w.alloc (.cells (cmdRow c a tc) 33)).alloc (.cells #[.int .i64 0, .int .i64 0] 38)).heap[w.heap.size]? = some (.cells (cmdRow c a tc) 33 (0, 0)) by rw [Below.heap_alloc _ _ _ (by simp)]; exact heap_new _ _)
  have X2 := hide (show ((w.alloc (.cells (cmdRow c a tc) 33)).alloc (.cells #[.int .i64 0, .int .i64 0] 38)).heap[w.heap.size + 1]? = some (.cells #[.int .i64 0, .int .i64 0] 38 (0, 0)) by rw [← s1]; exact heap_new _ _)
  have Z2 := hide (show ((w.alloc (.cells (cmdRow c a tc) 33)).alloc (.cells #[.int .i64 0, .int .i64 0] 38)).heap.size = w.heap.size + 2 by simp)
  have B2 := hide b2
  have LT := hide s.lts
  have AC := hide (act_calls (s.later b2) hx c a tc (hc.later b2) hs)
  have AV := hide (fun a' tc' => actS_ver c a' tc' x)
  have AE := hide (fun a' tc' => actS_err c a' tc' x)
  have hv2 := hx.ver.1
  clear b1 b2 s1
  unfold cmdRow at *
  unfold cmdVal at *
  generalize actS c = AA at *
  obtain ⟨act, cli, seq, exp, host, pre, pool, ts⟩ := c
  simp only at *
  have k0 := fcell0 (unhide X1) 0 _ rfl
  have k1 := fcell0 (unhide X1) 1 _ rfl
  have k2 := fcell0 (unhide X1) 2 _ rfl
  have k3 := fcell0 (unhide X1) 3 _ rfl
  have k4 := fcell0 (unhide X1) 4 _ rfl
  have k5 := fcell0 (unhide X1) 5 _ rfl
  have k6 := fcell0 (unhide X1) 6 _ rfl
  have k7 := fcell0 (unhide X1) 7 _ rfl
  go_enter Tryz.func40, Tryz.ntmps40
  go_wp2_with fail
  generalize ((w.alloc (.cells #[.int .i64 act, .int .i64 cli, .int .i64 seq, .int .i64 exp, .string host, .string pre, .string pool, .slice a ts.length tc] 33)).alloc (.cells #[.int .i64 0, .int .i64 0] 38)) = V at *
  clear k0 k1 k2 k3 k4 k5 k6 k7
  refine (unhide AC).mono ?_
  rintro e U ⟨a', tc', rfl, sd, cd⟩
  obtain ⟨t1, t2, t3, t4⟩ := unhide LT
  have hR := hide (show U.heap[w.heap.size + 1]? = some (.cells #[.int .i64 0, .int .i64 0] 38 (0, 0)) from (cd.block (w.heap.size + 1) (by have := unhide Z2; omega) (by omega) (by omega) (by omega) (by omega)).trans (unhide X2))
  have CD := hide ((Chg.below (h := h) (unhide B2)).trans cd)
  have sv := unhide AV a' tc'
  have se := unhide AE a' tc'
  generalize hr : AA a' tc' x = r at *
  obtain ⟨er, y⟩ := r
  simp only at sd sv se ⊢
  have SD := hide sd
  have c0 := sd.cell.1
  rw [sv] at c0
  have SV := hide sv
  have HR := hide hr
  have L1 := hide (show h.S ≠ w.heap.size + 1 by omega)
  have z0 := fcell0 (unhide hR) 0 _ rfl
  have z1 := fcell0 (unhide hR) 1 _ rfl
  have f0 : U.frozen? ⟨w.heap.size + 1, 0, none⟩ = false := by simp [World.frozen?, unhide hR]
  have f1 : U.frozen? ⟨w.heap.size + 1, 1, none⟩ = false := by simp [World.frozen?, unhide hR]
  clear sd cd sv hr t1 t2 t3 t4 AC
  by_cases he : er = 0
  · as_aux_lemma =>
    subst he
    have hd : doneS (0, y) = ((0, x.ver + 1), { y with ver := x.ver + 1 }) := by unfold doneS; simp only [if_pos, unhide SV]
    have HD := hide hd
    have sV := (unhide SD).withV (x.ver + 1)
    have SW := hide sV.1
    have CW := hide ((unhide CD).trans sV.2)
    have hs0 := (unhide SD).hd
    have fS : U.frozen? ⟨h.S, 0, none⟩ = false := by simp [World.frozen?, hs0]
    have hR2 := hide (show (U.setCell ⟨h.S, 0, none⟩ (.int .i64 (x.ver + 1))).heap[w.heap.size + 1]? = some (.cells #[.int .i64 0, .int .i64 0] 38 (0, 0)) from (heap_setCell_other U ⟨h.S, 0, none⟩ (w.heap.size + 1) _ (fun e => unhide L1 e.symm)).trans (unhide hR))
    have y0 := sV.1.cell.1
    have y1 := fcell0 (unhide hR2) 0 _ rfl
    have y2 := fcell0 (unhide hR2) 1 _ rfl
    have g0 : (U.setCell ⟨h.S, 0, none⟩ (.int .i64 (x.ver + 1))).frozen? ⟨w.heap.size + 1, 0, none⟩ = false := by simp [World.frozen?, unhide hR2]
    have g1 : (U.setCell ⟨h.S, 0, none⟩ (.int .i64 (x.ver + 1))).frozen? ⟨w.heap.size + 1, 1, none⟩ = false := by simp [World.frozen?, unhide hR2]
    obtain ⟨a1, a2⟩ := set2 (x := .int .i64 0) (y := .int .i64 (x.ver + 1)) (unhide hR2)
    have A1 := hide a1
    have FS := hide ((unhide SW).aside a2 (unhide hR2) (res_text _ _) (unhide L1))
    have FC := hide ((unhide CW).newer a2 (by omega))
    clear a1 a2 sV hs0 hd z0 z1 f0 f1
    go_wp2
    generalize (((U.setCell ⟨h.S, 0, none⟩ (.int .i64 (x.ver + 1))).setCell ⟨w.heap.size + 1, 0, none⟩ (.int .i64 0)).setCell ⟨w.heap.size + 1, 1, none⟩ (.int .i64 (x.ver + 1))) = W9 at *
    clear y0 y1 y2 g0 g1 fS c0
    have o0 : W9.cell? ⟨w.heap.size + 1, 0, none⟩ = some (.int .i64 0) := fcell0 (unhide A1) 0 _ rfl
    have o1 : W9.cell? ⟨w.heap.size + 1, 1, none⟩ = some (.int .i64 (x.ver + 1)) := fcell0 (unhide A1) 1 _ rfl
    exact bodyPost_ret (v := .agg #[.int .i64 0, .int .i64 (x.ver + 1)]) (by simp [results, Tryz.results40, go_sem, o0, o1]) rfl ⟨a', tc', by rw [unhide HR, unhide HD], by rw [unhide HR, unhide HD]; exact unhide FS, unhide FC⟩
  · as_aux_lemma =>
    have hd : doneS (er, y) = ((er, x.ver), y) := by unfold doneS; simp only [if_neg he, unhide SV]
    have HD := hide hd
    obtain ⟨a1, a2⟩ := set2 (x := .int .i64 er) (y := .int .i64 x.ver) (unhide hR)
    have A1 := hide a1
    have FS := hide ((unhide SD).aside a2 (unhide hR) (res_text _ _) (unhide L1))
    have FC := hide ((unhide CD).newer a2 (by omega))
    clear a1 a2 hd
    go_wp2
    generalize ((U.setCell ⟨w.heap.size + 1, 0, none⟩ (.int .i64 er)).setCell ⟨w.heap.size + 1, 1, none⟩ (.int .i64 x.ver)) = W9 at *
    clear z0 z1 f0 f1 c0
    have o0 : W9.cell? ⟨w.heap.size + 1, 0, none⟩ = some (.int .i64 er) := fcell0 (unhide A1) 0 _ rfl
    have o1 : W9.cell? ⟨w.heap.size + 1, 1, none⟩ = some (.int .i64 x.ver) := fcell0 (unhide A1) 1 _ rfl
    exact bodyPost_ret (v := .agg #[.int .i64 er, .int .i64 x.ver]) (by simp [results, Tryz.results40, go_sem, o0, o1]) rfl ⟨a', tc', by rw [unhide HR, unhide HD], by rw [unhide HR, unhide HD]; exact unhide FS, unhide FC⟩
end Go.Proofs.YtjcjleaicjhpeaaGreatDoor
end
/- Conf: the law's own example. -/
section
namespace Go.Proofs.YtjcjleaicjhpeaaGreatDoor
open Go.ChangeShapes Go.WideShapes Go.ChangeAt Go.RowKit
set_option linter.unusedVariables false

def xC1 : Cmd := ⟨1, 0, 0, -1, ⟨#[]⟩, ⟨#[]⟩, ⟨#[97]⟩, [(⟨#[116]⟩, 4607182418800017408)]⟩
def xC2 : Cmd := ⟨3, 0, 0, -1, ⟨#[120, 46, 121]⟩, ⟨#[47]⟩, ⟨#[97]⟩, []⟩
def xC3 : Cmd := ⟨2, 0, 0, -1, ⟨#[]⟩, ⟨#[]⟩, ⟨#[97]⟩, []⟩
def xS1 (a : Option Addr) (t : Nat) : Sm := ⟨1, [⟨⟨⟨#[97]⟩, [(⟨#[116]⟩, 4607182418800017408)]⟩, a, t⟩], [], []⟩
def xS2 (a : Option Addr) (t : Nat) : Sm := ⟨2, [⟨⟨⟨#[97]⟩, [(⟨#[116]⟩, 4607182418800017408)]⟩, a, t⟩], [⟨⟨#[120, 46, 121]⟩, ⟨#[47]⟩, ⟨#[97]⟩⟩], []⟩
theorem x_check : checkC xC1 = 0 ∧ checkC xC2 = 0 ∧ checkC xC3 = 0 := by decide
theorem x_conf1 : (confB sm0.cf).length = 2 ∧ (poolB ⟨⟨#[97]⟩, [(⟨#[116]⟩, 4607182418800017408)]⟩).length = 13 := by decide
theorem x_do1 (a : Option Addr) (t : Nat) : doneS (actS xC1 a t sm0) = ((0, 1), xS1 a t) := by kernel_rfl
theorem x_do2 (a b : Option Addr) (t u : Nat) : doneS (actS xC2 b u (xS1 a t)) = ((0, 2), xS2 a t) := by kernel_rfl
theorem x_do3 (a b : Option Addr) (t u : Nat) : doneS (actS xC3 b u (xS2 a t)) = ((13, 2), xS2 a t) := by kernel_rfl
def poolC (nm : ByteArray) : Cmd := ⟨1, 0, 0, -1, ⟨#[]⟩, ⟨#[]⟩, nm, [(⟨#[116]⟩, 4607182418800017408)]⟩
def routeC (h p l : ByteArray) : Cmd := ⟨3, 0, 0, -1, h, p, l, []⟩
set_option maxRecDepth 20000 in
set_option maxHeartbeats 4000000 in
theorem lpool_calls (w : World) (nm : ByteArray) : Calls Tryz.prog 20 #[.string nm] w fun e w' => ∃ B, e = .returned (cmdVal (poolC nm) (some ⟨B, 0, none⟩) 1) ∧ TgsAt w' (some ⟨B, 0, none⟩) (poolC nm).ts ∧ Below w.heap.size w w' := by
  have b1 : Below w.heap.size w (w.alloc (.cells #[.int .i64 1, .int .i64 0, .int .i64 0, .int .i64 (-1), .string ⟨#[]⟩, .string ⟨#[]⟩, .string nm, .slice (some ⟨w.heap.size + 1, 0, none⟩) 1 1] 33)) := (Below.refl _ _).alloc (Nat.le_refl _) _
  have b2 := hide (b1.alloc b1.size (.cells #[.string ⟨#[116]⟩, .float .f64 4607182418800017408] 70))
  have s1 : (w.alloc (.cells #[.int .i64 1, .int .i64 0, .int .i64 0, .int .i64 (-1), .string ⟨#[]⟩, .string ⟨#[]⟩, .string nm, .slice (some ⟨w.heap.size + 1, 0, none⟩) 1 1] 33)).heap.size = w.heap.size + 1 := by simp
  have X1 : ((w.alloc (.cells #[.int .i64 1, .int .i64 0, .int .i64 0, .int .i64 (-1), .string ⟨#[]⟩, .string ⟨#[]⟩, .string nm, .slice (some ⟨w.heap.size + 1, 0, none⟩) 1 1] 33)).alloc (.cells #[.string ⟨#[116]⟩, .float .f64 4607182418800017408] 70)).heap[w.heap.size]? = some (.cells #[.int .i64 1, .int .i64 0, .int .i64 0, .int .i64 (-1), .string ⟨#[]⟩, .string ⟨#[]⟩, .string nm, .slice (some ⟨w.heap.size + 1, 0, none⟩) 1 1] 33 (0, 0)) := by rw [Below.heap_alloc _ _ _ (by simp)]; exact heap_new _ _
  have X2 : ((w.alloc (.cells #[.int .i64 1, .int .i64 0, .int .i64 0, .int .i64 (-1), .string ⟨#[]⟩, .string ⟨#[]⟩, .string nm, .slice (some ⟨w.heap.size + 1, 0, none⟩) 1 1] 33)).alloc (.cells #[.string ⟨#[116]⟩, .float .f64 4607182418800017408] 70)).heap[w.heap.size + 1]? = some (.cells #[.string ⟨#[116]⟩, .float .f64 4607182418800017408] 70 (0, 0)) := by
    have h := heap_new (w.alloc (.cells #[.int .i64 1, .int .i64 0, .int .i64 0, .int .i64 (-1), .string ⟨#[]⟩, .string ⟨#[]⟩, .string nm, .slice (some ⟨w.heap.size + 1, 0, none⟩) 1 1] 33)) (.cells #[.string ⟨#[116]⟩, .float .f64 4607182418800017408] 70)
    rw [s1] at h
    exact h
  have g0 := fcell0 X1 0 _ rfl
  have g1 := fcell0 X1 1 _ rfl
  have g2 := fcell0 X1 2 _ rfl
  have g3 := fcell0 X1 3 _ rfl
  have g4 := fcell0 X1 4 _ rfl
  have g5 := fcell0 X1 5 _ rfl
  have g6 := fcell0 X1 6 _ rfl
  have g7 := fcell0 X1 7 _ rfl
  have t0 := fcell0 X2 0 _ rfl
  have t1 := fcell0 X2 1 _ rfl
  have TG := hide (show TgsAt ((w.alloc (.cells #[.int .i64 1, .int .i64 0, .int .i64 0, .int .i64 (-1), .string ⟨#[]⟩, .string ⟨#[]⟩, .string nm, .slice (some ⟨w.heap.size + 1, 0, none⟩) 1 1] 33)).alloc (.cells #[.string ⟨#[116]⟩, .float .f64 4607182418800017408] 70)) (some ⟨w.heap.size + 1, 0, none⟩) (poolC nm).ts from ⟨by simp [poolC], fun i hi => by
    obtain rfl : i = 0 := by simp [poolC] at hi; omega
    exact ⟨w.heap.size + 1, 0, rfl, t0, t1⟩⟩)
  clear b1 s1 X1 X2 t0 t1
  go_enter Tryz.func20, Tryz.ntmps20
  go_wp2
  exact bodyPost_ret (v := .agg #[.int .i64 1, .int .i64 0, .int .i64 0, .int .i64 (-1), .string ⟨#[]⟩, .string ⟨#[]⟩, .string nm, .slice (some ⟨w.heap.size + 1, 0, none⟩) 1 1]) (by simp [results, Tryz.results20, go_sem, g0, g1, g2, g3, g4, g5, g6, g7]) rfl ⟨w.heap.size + 1, rfl, unhide TG, unhide b2⟩
set_option maxRecDepth 20000 in
set_option maxHeartbeats 4000000 in
theorem lroute_calls (w : World) (h p l : ByteArray) : Calls Tryz.prog 23 #[.string h, .string p, .string l] w fun e w' => e = .returned (cmdVal (routeC h p l) none 0) ∧ Below w.heap.size w w' := by
  have b1 := hide (show Below w.heap.size w (w.alloc (.cells #[.int .i64 3, .int .i64 0, .int .i64 0, .int .i64 (-1), .string h, .string p, .string l, .slice none 0 0] 33)) from (Below.refl _ _).alloc (Nat.le_refl _) _)
  have X1 := heap_new w (.cells #[.int .i64 3, .int .i64 0, .int .i64 0, .int .i64 (-1), .string h, .string p, .string l, .slice none 0 0] 33)
  have g0 := fcell0 X1 0 _ rfl
  have g1 := fcell0 X1 1 _ rfl
  have g2 := fcell0 X1 2 _ rfl
  have g3 := fcell0 X1 3 _ rfl
  have g4 := fcell0 X1 4 _ rfl
  have g5 := fcell0 X1 5 _ rfl
  have g6 := fcell0 X1 6 _ rfl
  have g7 := fcell0 X1 7 _ rfl
  clear X1
  go_enter Tryz.func23, Tryz.ntmps23
  go_wp2
  exact bodyPost_ret (v := .agg #[.int .i64 3, .int .i64 0, .int .i64 0, .int .i64 (-1), .string h, .string p, .string l, .slice none 0 0]) (by simp [results, Tryz.results23, go_sem, g0, g1, g2, g3, g4, g5, g6, g7]) rfl ⟨rfl, unhide b1⟩
end Go.Proofs.YtjcjleaicjhpeaaGreatDoor
end
/- Conf: a nil store. -/
section
namespace Go.Proofs.YtjcjleaicjhpeaaGreatDoor
open Go.ChangeShapes Go.WideShapes Go.ChangeAt Go.RowKit
set_option linter.unusedVariables false

set_option maxRecDepth 20000 in
set_option maxHeartbeats 4000000 in
theorem seenN_calls (w : World) (n : Int) : Calls Tryz.prog 17 #[.pointer none, .int .i64 n] w fun e w' => e = .returned (.tuple #[.int .i64 0, .agg #[.int .i64 0, .int .i64 0]]) ∧ Below w.heap.size w w' := by
  have b1 := hide (show Below w.heap.size w (w.alloc (.cells #[.int .i64 0, .int .i64 0] 38)) from (Below.refl _ _).alloc (Nat.le_refl _) _)
  have X1 := heap_new w (.cells #[.int .i64 0, .int .i64 0] 38)
  have g0 := fcell0 X1 0 _ rfl
  have g1 := fcell0 X1 1 _ rfl
  clear X1
  go_enter Tryz.func17, Tryz.ntmps17
  go_wp2
  exact bodyPost_ret (v := .tuple #[.int .i64 0, .agg #[.int .i64 0, .int .i64 0]]) (by simp [results, Tryz.results17, go_sem, g0, g1]) rfl ⟨rfl, unhide b1⟩
set_option maxRecDepth 20000 in
set_option maxHeartbeats 4000000 in
theorem configN_calls (w : World) : Calls Tryz.prog 19 #[.pointer none] w fun e w' => e = .returned (.agg #[.int .i64 0, .slice none 0 0, .slice none 0 0]) ∧ Below w.heap.size w w' := by
  have b1 := hide (show Below w.heap.size w (w.alloc (.cells #[.int .i64 0, .slice none 0 0, .slice none 0 0] 45)) from (Below.refl _ _).alloc (Nat.le_refl _) _)
  have X1 := heap_new w (.cells #[.int .i64 0, .slice none 0 0, .slice none 0 0] 45)
  have g0 := fcell0 X1 0 _ rfl
  have g1 := fcell0 X1 1 _ rfl
  have g2 := fcell0 X1 2 _ rfl
  clear X1
  go_enter Tryz.func19, Tryz.ntmps19
  go_wp2
  exact bodyPost_ret (v := .agg #[.int .i64 0, .slice none 0 0, .slice none 0 0]) (by simp [results, Tryz.results19, go_sem, g0, g1, g2]) rfl ⟨rfl, unhide b1⟩
set_option maxRecDepth 20000 in
set_option maxHeartbeats 4000000 in
theorem doN_calls (w : World) (c : Cmd) (a : Option Addr) (tc : Nat) : Calls Tryz.prog 18 #[.pointer none, cmdVal c a tc] w fun e w' => e = .returned (.agg #[.int .i64 1, .int .i64 0]) ∧ Below w.heap.size w w' := by
  unfold cmdVal
  have b1 : Below w.heap.size w (w.alloc (.cells (cmdRow c a tc) 33)) := (Below.refl _ _).alloc (Nat.le_refl _) _
  have b2 := hide (b1.alloc b1.size (.cells #[.int .i64 1, .int .i64 0] 38))
  have s1 : (w.alloc (.cells (cmdRow c a tc) 33)).heap.size = w.heap.size + 1 := by simp
  have X2 := heap_new (w.alloc (.cells (cmdRow c a tc) 33)) (.cells #[.int .i64 1, .int .i64 0] 38)
  rw [s1] at X2
  unfold cmdRow at *
  have g0 := fcell0 X2 0 _ rfl
  have g1 := fcell0 X2 1 _ rfl
  clear X2 s1 b1
  go_enter Tryz.func18, Tryz.ntmps18
  go_wp2
  exact bodyPost_ret (v := .agg #[.int .i64 1, .int .i64 0]) (by simp [results, Tryz.results18, go_sem, g0, g1]) rfl ⟨rfl, unhide b2⟩
theorem putN_calls (w : World) : Calls Tryz.prog 22 #[.pointer none] w fun e w' => e = .returned (.slice none 0 0) ∧ w' = w := by
  go_enter Tryz.func22, Tryz.ntmps22
  go_wp2
  go_ret
  exact ⟨rfl, rfl⟩
theorem forkN_calls (w : World) : Calls Tryz.prog 28 #[.pointer none] w fun e w' => e = .returned (.pointer none) ∧ w' = w := by
  go_enter Tryz.func28, Tryz.ntmps28
  go_wp2
  go_ret
  exact ⟨rfl, rfl⟩
end Go.Proofs.YtjcjleaicjhpeaaGreatDoor
end
