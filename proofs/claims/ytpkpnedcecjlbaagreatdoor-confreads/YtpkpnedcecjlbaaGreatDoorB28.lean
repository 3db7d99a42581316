/- Conf: dropPool. -/
import Derived.Test.YtpkpnedcecjlbaaGreatDoorB27
import Derived.Maps.RangeWalk
import Derived.Test.YtpkpnedcecjlbaaGreatDoorB24
import Derived.Test.YtpkpnedcecjlbaaGreatDoorB14
import Derived.BigQuiet
section
namespace Go.Proofs.YtpkpnedcecjlbaaGreatDoor
open Go.ChangeShapes Go.WideShapes Go.ChangeAt Go.RowKit
set_option linter.unusedVariables false

/-- A pool dropped. -/
def dropPS (nm : ByteArray) (x : Sm) : Int × Sm := match lget qnm nm x.ps with
  | none => (8, x)
  | some _ => if x.rs.any (fun r => decide (r.l = nm)) then (13, x) else (0, { x with ps := ldel qnm nm x.ps })
theorem text_eq (a b : ByteArray) : (a.toList == b.toList) = decide (a = b) := by
  rw [ByteArray.toList_eq, ByteArray.toList_eq, Bool.eq_iff_iff, beq_iff_eq, decide_eq_true_eq]
  exact ⟨fun h => bytes_ext h, fun h => by rw [h]⟩
set_option maxRecDepth 20000 in
set_option maxHeartbeats 8000000 in
theorem dropPool_calls {w : World} {h : StH} {x : Sm} (s : StAt w h x) (nm : ByteArray) (hp : nm.size ≤ maxLen) :
    Calls Tryz.prog 103 #[.pointer (some ⟨h.S, 0, none⟩), .string nm] w fun e w' => e = .returned (.int .i64 (dropPS nm x).1) ∧ StAt w' h (dropPS nm x).2 ∧ Chg h w w' := by
  have c1 := s.cell.2.1
  have lk := lookP s nm hp
  have DR := hide (show dropPS nm x = (match lget qnm nm x.ps with
    | none => (8, x)
    | some _ => if x.rs.any (fun r => decide (r.l = nm)) then (13, x) else (0, { x with ps := ldel qnm nm x.ps })) from rfl)
  generalize hq : ((lget qnm nm x.ps).getD ⟨⟨⟨#[]⟩, []⟩, none, 0⟩) = q at *
  generalize hi : (lget qnm nm x.ps).isSome = ii at *
  have HI := hide hi
  clear hi hq
  obtain ⟨⟨qn, qt⟩, qa, qc⟩ := q
  simp only [pqV] at lk
  have b1 := hide (show Below w.heap.size w (w.alloc (.cells #[.string qn, .slice qa qt.length qc] 93)) from (Below.refl _ _).alloc (Nat.le_refl _) _)
  cases ii with
  | false =>
    have hg : lget qnm nm x.ps = none := by
      have h1 := unhide HI
      cases hg : lget qnm nm x.ps with
      | none => rfl
      | some v => rw [hg] at h1; cases h1
    have hd : dropPS nm x = (8, x) := by rw [unhide DR, hg]
    have ch := hide (Chg.below (h := h) (unhide b1))
    have st3 := hide (s.later (unhide b1))
    clear DR
    go_enter Tryz.func103, Tryz.ntmps103
    go_wp2
    go_ret
    rw [hd]
    exact ⟨rfl, unhide st3, unhide ch⟩
  | true =>
    have LP := hide (show ∃ v, lget qnm nm x.ps = some v by
      have h1 := unhide HI
      cases hg : lget qnm nm x.ps with
      | none => rw [hg] at h1; cases h1
      | some v => exact ⟨v, rfl⟩)
    obtain ⟨pv, hpv⟩ := unhide LP
    have LP := hide hpv
    have sV := hide (s.later (unhide b1))
    have c2 := (unhide sV).cell.2.2.1
    obtain ⟨D, hD, hS, hL, hH, hA⟩ := (unhide sV).rm.left
    have HD := hide hD
    have HL0 := hide hL
    have HH := hide hH
    have HA := hide hA
    have RISE := hide (unhide sV).rm.rise
    have OKK := hide (unhide sV).rm.okk
    clear hpv hD hL hH hA hS
    go_enter Tryz.func103, Tryz.ntmps103
    go_wp2_with (at_range; refine unhide ?_)
    refine hide ?_
    generalize w.alloc (.cells #[.string qn, .slice qa qt.length qc] 93) = V at *
    refine wpList_range_own _ rfl _ 83 rfl 98 67 placeLaw mapTR _ h.R x.fr.length D rfl (unhide HD) ?_
    intro w0 hrg0 hg0 hs0
    have RG0 := hide hrg0
    have F0 := hide (show Below V.heap.size V w0 from ⟨hg0.os, hg0.tape, hg0.output, hg0.size, fun i hi => hg0.block i hi (by simp)⟩)
    clear hrg0 hg0 hs0
    go_frame
    go_wp2_with fail
    generalize hr : V.heap.size = r at *
    go_loopw [8] (fun _ wr => ∃ (left : Lit → Bool) (cnt : Nat) (ks : List Pl), Hid (wr.ranges Tryz.prog 98 valElem h.R r x.fr.length D left cnt) ∧ Hid (LeftK kxP x.fr ks left) ∧ Hid (∀ kl, left kl = true → Maps.has D kl = true) ∧ Hid (∀ y ∈ x.rs, rpl y ∈ ks → y.l ≠ nm) ∧ Hid (Below r V wr)) (fun _ wr => wr.rangeLeft h.R r)
    case atStart =>
      exact ⟨Maps.has D, Maps.size D, [], RG0, HL0, hide (fun _ e => e), hide (fun y _ e => by simp at e), F0⟩
    case round =>
      obtain ⟨left, cnt, ks, RG, HL, HS, HN, F⟩ := hrel
      go_wp2_with (at_next; refine unhide ?_)
      refine hide ?_
      refine wpList_next_ranges _ rfl _ rfl 98 placeLaw valElem plV (fun v : Value => v) (fun key kl hkey => by obtain ⟨k, _, e, _⟩ := kxP.inv hkey; exact ⟨k, e⟩) (fun v y _ => ⟨v, rfl⟩) h.R r x.fr.length D left cnt rfl (unhide RG) ?_ ?_
      · intro hc0 hl0
        have PM := hide ((unhide HL).perm (unhide RISE) hl0)
        have hall : x.rs.any (fun r => decide (r.l = nm)) = false := by
          rw [List.any_eq_false]
          intro y hy e
          exact unhide HN y hy ((unhide PM).mem_iff.2 (List.mem_map.2 ⟨(rpl y, rtVal y), List.mem_map.2 ⟨y, hy, rfl⟩, rfl⟩)) (of_decide_eq_true e)
        have hd : dropPS nm x = (0, { x with ps := ldel qnm nm x.ps }) := by
          rw [unhide DR, unhide LP]
          simp only [hall]
          rfl
        have bW := hide (show Below V.heap.size V wr by rw [hr]; exact unhide F)
        obtain ⟨W3, hdel, sd, cd⟩ := ((unhide sV).later (unhide bW)).delP nm hp
        have cP := ((unhide sV).later (unhide bW)).cell.2.1
        have SD := hide sd
        have CD := hide ((Chg.below (h := h) ((unhide b1).trans ((unhide bW).mono (unhide b1).size))).trans cd)
        clear sd cd DR hc0 hl0
        go_wp2
        go_ret
        first
          | rw [hd]
          | skip
        exact ⟨rfl, unhide SD, unhide CD⟩
      · intro k c kl y w1 cnt1 hkey hlk hR hat hrg1 hlt hg1 hs1 hen
        obtain ⟨k2, hk2, e1, e2⟩ := kxP.inv hkey
        obtain rfl : k = k2 := kxP.vinj e1
        have hin := unhide HH k hk2 (e2 ▸ unhide HS kl hlk)
        obtain ⟨⟨k', v⟩, hm, ek⟩ := List.mem_map.1 hin
        simp only at ek
        subst ek
        obtain ⟨r1, hr1, er⟩ := List.mem_map.1 hm
        simp only [Prod.mk.injEq] at er
        have hkr : rpl r1 = k' := er.1
        have hy1 : y.1 = .held v := by rw [← hat (.held v), e2]; exact unhide HA _ hm _
        have hcv : c = v := by
          simp only [valElem, Option.some.injEq] at hR
          rw [← hR] at hy1
          simpa using hy1
        have hcr : c = .agg #[.string r1.h, .string r1.p, .string r1.l] := by rw [hcv, ← er.2]; rfl
        subst hcr
        have F1 := hide ((unhide F).grown hg1 (by have := (unhide F).size; omega) (fun g' hg' => by have := Option.some.inj hg'; omega))
        have RG1 := hide hrg1
        have HC := hide hlt
        have F2 := hide ((unhide F1).alloc (by have := (unhide F1).size; omega) (.cells #[.string r1.h, .string r1.p, .string r1.l] 67))
        have RG2 := hide ((unhide RG1).alloc (.cells #[.string r1.h, .string r1.p, .string r1.l] 67))
        have XB := hide (heap_new w1 (.cells #[.string r1.h, .string r1.p, .string r1.l] 67))
        have d2 := fcell0 (unhide XB) 2 _ rfl
        have e5 := text_eq r1.l nm
        have LX := hide ((unhide HL).step sameP (unhide OKK) hin (e2 ▸ hlk))
        have KR := hide hkr
        have R1 := hide hr1
        have E2 := hide e2
        clear hkey hR hat hrg1 hlt hg1 hs1 hin hm er hy1 hcv e1 hk2
        by_cases hln : r1.l = nm
        · have hany : x.rs.any (fun r => decide (r.l = nm)) = true := List.any_eq_true.2 ⟨r1, unhide R1, decide_eq_true hln⟩
          have hd : dropPS nm x = (13, x) := by
            rw [unhide DR, unhide LP]
            simp only [hany]
            rfl
          have hdec : decide (r1.l = nm) = true := decide_eq_true hln
          rw [hdec] at e5
          have bW := hide (show Below V.heap.size V (w1.alloc (.cells #[.string r1.h, .string r1.p, .string r1.l] 67)) by rw [hr]; exact unhide F2)
          have SD := hide ((unhide sV).later (unhide bW))
          have CD := hide (Chg.below (h := h) ((unhide b1).trans ((unhide bW).mono (unhide b1).size)))
          clear DR hln hany hdec
          go_wp2
          go_ret
          first
            | rw [hd]
            | skip
          exact ⟨rfl, unhide SD, unhide CD⟩
        · have hdec : decide (r1.l = nm) = false := decide_eq_false hln
          rw [hdec] at e5
          have HN2 := hide (show ∀ y ∈ x.rs, rpl y ∈ ks ++ [k'] → y.l ≠ nm from fun y hy hk => by
            rcases List.mem_append.1 hk with hk | hk
            · exact unhide HN y hy hk
            · have hk3 : rpl y = k' := by simpa using hk
              have hg1 := (unhide RISE).get (show (rpl y, rtVal y) ∈ x.fr from List.mem_map.2 ⟨y, hy, rfl⟩)
              have hg2 := (unhide RISE).get (show (rpl r1, rtVal r1) ∈ x.fr from List.mem_map.2 ⟨r1, unhide R1, rfl⟩)
              rw [hk3] at hg1
              rw [unhide KR, hg1] at hg2
              have h3 := Option.some.inj hg2
              simp only [rtVal, Value.agg.injEq] at h3
              have h4 : y.l = r1.l := by
                have h5 := congrArg (fun a : Array Value => a[2]?) h3
                simpa using h5
              rw [h4]
              exact hln)
          have HS2 := hide (show ∀ q, (left q && !q.sameKey kl) = true → Maps.has D q = true from fun q hq => by
            simp only [Bool.and_eq_true] at hq
            exact unhide HS q hq.1)
          have LX2 := hide (show LeftK kxP x.fr (ks ++ [k']) (fun z => left z && !z.sameKey kl) by rw [unhide E2]; exact unhide LX)
          clear hln hdec DR
          go_wp2
          exact ⟨⟨_, cnt1, ks ++ [k'], RG2, LX2, HS2, HN2, F2⟩, by rw [(unhide RG2).left_eq, (unhide RG).left_eq]; exact unhide HC⟩
end Go.Proofs.YtpkpnedcecjlbaaGreatDoor
end
/- Conf: dropRoute. -/
section
namespace Go.Proofs.YtpkpnedcecjlbaaGreatDoor
open Go.ChangeShapes Go.WideShapes Go.ChangeAt Go.RowKit
set_option linter.unusedVariables false

set_option maxRecDepth 20000 in
set_option maxHeartbeats 4000000 in
theorem dropRoute_calls {w : World} {h : StH} {x : Sm} (s : StAt w h x) (p : Pl) (hp : p.1.size ≤ maxLen ∧ p.2.size ≤ maxLen) :
    Calls Tryz.prog 105 #[.pointer (some ⟨h.S, 0, none⟩), .agg #[.string p.1, .string p.2]] w fun e w' => e = .returned (.int .i64 (dropRS p x).1) ∧ StAt w' h (dropRS p x).2 ∧ Chg h w w' := by
  have b1 := hide (show Below w.heap.size w (w.alloc (.cells #[.string p.1, .string p.2] 98)) from (Below.refl _ _).alloc (Nat.le_refl _) _)
  have X1 := hide (heap_new w (.cells #[.string p.1, .string p.2] 98))
  have SS := hide (show ∀ W : World, Below (w.alloc (.cells #[.string p.1, .string p.2] 98)).heap.size (w.alloc (.cells #[.string p.1, .string p.2] 98)) W → W.cell? ⟨h.S, 2, none⟩ = some (.map (some h.R)) ∧ W.cell? ⟨w.heap.size, 0, none⟩ = some (.string p.1) ∧ W.cell? ⟨w.heap.size, 1, none⟩ = some (.string p.2) ∧ (Instr.lookup 83 (.map (some h.R)) (.agg #[.string p.1, .string p.2]) true).run Tryz.prog W = .ok (.tuple #[rtVal ((lget rpl p x.rs).getD rt0), .bool (lget rpl p x.rs).isSome]) W from fun W hb => by
    have st := s.later ((unhide b1).trans (hb.mono (unhide b1).size))
    have hk := later_block hb (unhide X1)
    exact ⟨st.cell.2.2.1, fcell0 hk 0 _ rfl, fcell0 hk 1 _ rfl, lookR st p hp⟩)
  have DR := hide (show dropRS p x = (match lget rpl p x.rs with | none => (8, x) | some _ => (0, { x with rs := ldel rpl p x.rs })) from rfl)
  go_enter Tryz.func105, Tryz.ntmps105
  go_wp2_with fail
  generalize hB : w.heap.size = B at *
  generalize w.alloc (.cells #[.string p.1, .string p.2] 98) = V at *
  generalize hq : ((lget rpl p x.rs).getD rt0) = q at *
  generalize hi : (lget rpl p x.rs).isSome = ii at *
  have HI := hide hi
  have F := hide (show Below V.heap.size V V.drew from (Below.refl _ _).drew)
  clear hi hq
  obtain ⟨qh, qp, ql⟩ := q
  simp only [rtVal] at SS
  refine wp_region_held_drew (S := fun w' => w'.cell? ⟨h.S, 2, none⟩ = some (.map (some h.R)) ∧ w'.cell? ⟨B, 0, none⟩ = some (.string p.1) ∧ w'.cell? ⟨B, 1, none⟩ = some (.string p.2) ∧ (Instr.lookup 83 (.map (some h.R)) (.agg #[.string p.1, .string p.2]) true).run Tryz.prog w' = .ok (.tuple #[.agg #[.string qh, .string qp, .string ql], .bool ii]) w') (by kernel_rfl) ?_ (fun hHeld => ?_)
  · try dsimp only
    exact unhide SS _ (unhide F)
  refine hT 0 ?_
  refine hT 1 ?_
  refine hT 2 ?_
  refine hT 3 ?_
  refine hT 4 ?_
  refine hT 5 ?_
  refine hT 6 ?_
  refine hT 7 ?_
  refine hT 8 ?_
  refine wpAnyH_ready (rs := [9]) (by kernel_rfl) (by simp) ?_
  refine AllReadyH.cons rfl (fun K hK => ?_) ?_
  · refine step_zR rfl rfl ?_
    intro E U hE hEn hb
    have LE := hide (show V.heap.size ≤ E by rw [← hE]; exact (unhide F).size)
    have HE := hide hEn
    have F := hide ((unhide F).trans (hb.mono (unhide F).size))
    clear hE hEn hb
    refine hK.out _ _ ?_ (fun hHeld => ?_)
    · try dsimp only
      exact unhide SS _ (unhide F)
    clear hK K
    refine hP ?_
    refine wpAnyH_ready (rs := [10]) (by kernel_rfl) (by simp) ?_
    refine AllReadyH.cons rfl (fun K hK => ?_) ?_
    · have z0 := fcell0 (unhide HE) 0 _ rfl
      have z1 := fcell0 (unhide HE) 1 _ rfl
      have z2 := fcell0 (unhide HE) 2 _ rfl
      have f0 : U.frozen? ⟨E, 0, none⟩ = false := by simp [World.frozen?, unhide HE]
      have f1 : U.frozen? ⟨E, 1, none⟩ = false := by simp [World.frozen?, unhide HE]
      have f2 : U.frozen? ⟨E, 2, none⟩ = false := by simp [World.frozen?, unhide HE]
      have a1 := set3 (x := .string qh) (y := .string qp) (z := .string ql) (unhide HE)
      have F := hide ((unhide F).grown a1.2 (unhide F).size (fun g e => by have := Option.some.inj e; have := unhide LE; omega))
      clear a1
      go_simp
      clear z0 z1 z2 f0 f1 f2
      refine hK.out _ _ ?_ (fun hHeld => ?_)
      · try dsimp only
        exact unhide SS _ (unhide F)
      clear hK K
      refine hP ?_
      refine hT 11 ?_
      refine wpAnyH_done (by kernel_rfl) ?_ _
      generalize (((U.setCell ⟨E, 0, none⟩ (.string qh)).setCell ⟨E, 1, none⟩ (.string qp)).setCell ⟨E, 2, none⟩ (.string ql)) = U2 at *
      clear hHeld HE LE
      have S2 := hide (unhide SS _ (unhide F))
      have b2 := hide ((unhide b1).trans ((unhide F).mono (by have := (unhide b1).size; omega)))
      have st := hide (s.later (show Below w.heap.size w U2 by rw [hB]; exact unhide b2))
      cases ii with
      | false =>
        have hd : dropRS p x = (8, x) := by
          have h1 := unhide HI
          rw [unhide DR]
          cases hg : lget rpl p x.rs with
          | none => rfl
          | some v => rw [hg] at h1; cases h1
        have ch := hide (show Chg h w U2 from Chg.below (by rw [hB]; exact unhide b2))
        clear DR
        go_wp2
        go_ret
        rw [hd]
        exact ⟨rfl, unhide st, unhide ch⟩
      | true =>
        have hd : dropRS p x = (0, { x with rs := ldel rpl p x.rs }) := by
          have h1 := unhide HI
          rw [unhide DR]
          cases hg : lget rpl p x.rs with
          | none => rw [hg] at h1; cases h1
          | some v => rfl
        have bD := hide (show Below V.heap.size V U2.drew from (unhide F).drew)
        obtain ⟨W3, hdel, sd, cd⟩ := ((unhide st).later (Below.refl _ _).drew).delR p hp
        have SD := hide sd
        have CD := hide ((Chg.below (h := h) (w := w) (w' := U2) (by rw [hB]; exact unhide b2)).trans ((Chg.below (Below.refl _ _).drew).trans cd))
        clear sd cd DR
        go_wp2_with fail
        refine wp_region_held_drew (S := fun w' => w' = U2.drew ∨ w' = W3) (by kernel_rfl) ?_ (fun hHeld => ?_)
        · try dsimp only
          first | exact .inl rfl | exact .inr rfl
        refine hT 0 ?_
        refine hT 1 ?_
        refine hT 2 ?_
        refine wpAnyH_ready (rs := [3, 4]) (by kernel_rfl) (by simp) ?_
        refine AllReadyH.cons rfl (fun K hK => ?_) ?_
        · have e3 := (unhide SS _ (unhide bD)).1
          go_simp
          clear e3
          refine hK.out _ _ ?_ (fun hHeld => ?_)
          · try dsimp only
            first | exact .inl rfl | exact .inr rfl
          clear hK K
          refine hP ?_
          refine wpAnyH_ready (rs := [4]) (by kernel_rfl) (by simp) ?_
          refine AllReadyH.cons rfl (fun K hK => ?_) ?_
          · have e3 := (unhide SS _ (unhide bD)).2.1
            have e4 := (unhide SS _ (unhide bD)).2.2.1
            go_simp
            clear e3 e4
            refine hK.out _ _ ?_ (fun hHeld => ?_)
            · try dsimp only
              first | exact .inl rfl | exact .inr rfl
            clear hK K
            refine hP ?_
            refine wpAnyH_ready (rs := [5]) (by kernel_rfl) (by simp) ?_
            refine AllReadyH.cons rfl (fun K hK => ?_) ?_
            · go_simp
              refine hK.out _ _ ?_ (fun hHeld => ?_)
              · try dsimp only
                first | exact .inl rfl | exact .inr rfl
              clear hK K
              refine hP ?_
              refine wpAnyH_done (by kernel_rfl) ?_ _
              go_wp2
              go_ret
              exact ⟨rfl, unhide SD, unhide CD⟩
            exact AllReadyH.nil
          exact AllReadyH.nil
        refine AllReadyH.cons rfl (fun K hK => ?_) ?_
        · have e3 := (unhide SS _ (unhide bD)).2.1
          have e4 := (unhide SS _ (unhide bD)).2.2.1
          go_simp
          clear e3 e4
          refine hK.out _ _ ?_ (fun hHeld => ?_)
          · try dsimp only
            first | exact .inl rfl | exact .inr rfl
          clear hK K
          refine hP ?_
          refine wpAnyH_ready (rs := [3]) (by kernel_rfl) (by simp) ?_
          refine AllReadyH.cons rfl (fun K hK => ?_) ?_
          · have e3 := (unhide SS _ (unhide bD)).1
            go_simp
            clear e3
            refine hK.out _ _ ?_ (fun hHeld => ?_)
            · try dsimp only
              first | exact .inl rfl | exact .inr rfl
            clear hK K
            refine hP ?_
            refine wpAnyH_ready (rs := [5]) (by kernel_rfl) (by simp) ?_
            refine AllReadyH.cons rfl (fun K hK => ?_) ?_
            · go_simp
              refine hK.out _ _ ?_ (fun hHeld => ?_)
              · try dsimp only
                first | exact .inl rfl | exact .inr rfl
              clear hK K
              refine hP ?_
              refine wpAnyH_done (by kernel_rfl) ?_ _
              go_wp2
              go_ret
              exact ⟨rfl, unhide SD, unhide CD⟩
            exact AllReadyH.nil
          exact AllReadyH.nil
        exact AllReadyH.nil
    exact AllReadyH.nil
  exact AllReadyH.nil
end Go.Proofs.YtpkpnedcecjlbaaGreatDoor
end
/- Conf: act. -/
section
namespace Go.Proofs.YtpkpnedcecjlbaaGreatDoor
open Go.ChangeShapes Go.WideShapes Go.ChangeAt Go.RowKit
set_option linter.unusedVariables false

/-- A command whose texts are few. -/
structure SmallCmd (c : Cmd) : Prop where
  h : c.host.size ≤ 1000000
  p : c.pre.size ≤ 1000000
  l : c.pool.size ≤ 1000000
  n : c.ts.length ≤ 100
  t : ∀ t ∈ c.ts, t.1.size ≤ 1000000
/-- What an act comes to; a', tc': where the pool's targets lie. -/
def actS (c : Cmd) (a' : Option Addr) (tc' : Nat) (x : Sm) : Int × Sm :=
  if 0 ≤ c.exp ∧ c.exp ≠ x.ver then (12, x)
  else if c.act = 1 then putPS ⟨⟨c.pool, c.ts⟩, a', tc'⟩ x
  else if c.act = 2 then dropPS c.pool x
  else if c.act = 3 then putRS ⟨c.host, c.pre, c.pool⟩ x
  else dropRS (c.host, c.pre) x
set_option maxRecDepth 20000 in
set_option maxHeartbeats 8000000 in
theorem act_calls {w : World} {h : StH} {x : Sm} (s : StAt w h x) (hx : SmOk x) (c : Cmd) (a : Option Addr) (tc : Nat) (hc : CmdAt w c a tc) (hs : SmallCmd c) :
    Calls Tryz.prog 84 #[.pointer (some ⟨h.S, 0, none⟩), cmdVal c a tc] w fun e w' => ∃ a' tc', e = .returned (.int .i64 (actS c a' tc' x).1) ∧ StAt w' h (actS c a' tc' x).2 ∧ Chg h w w' := by
  have AS := hide (show ∀ a' tc', actS c a' tc' x = (if 0 ≤ c.exp ∧ c.exp ≠ x.ver then (12, x)
    else if c.act = 1 then putPS ⟨⟨c.pool, c.ts⟩, a', tc'⟩ x
    else if c.act = 2 then dropPS c.pool x
    else if c.act = 3 then putRS ⟨c.host, c.pre, c.pool⟩ x
    else dropRS (c.host, c.pre) x) from fun _ _ => rfl)
  obtain ⟨v1, v2⟩ := hx.ver
  obtain ⟨e1, e2⟩ := hc.ie
  obtain ⟨i1, i2⟩ := hc.ia
  have HT := hide hc.tgs
  obtain ⟨z1, z2, z3, z4, z5⟩ := hs
  unfold cmdVal
  generalize hact : actS c = AA at *
  obtain ⟨act, cli, seq, exp, host, pre, pool, ts⟩ := c
  simp only at *
  clear hc
  have b1 := hide (show Below w.heap.size w (w.alloc (.cells #[.int .i64 act, .int .i64 cli, .int .i64 seq, .int .i64 exp, .string host, .string pre, .string pool, .slice a ts.length tc] 25)) from (Below.refl _ _).alloc (Nat.le_refl _) _)
  have X1 := hide (heap_new w (.cells #[.int .i64 act, .int .i64 cli, .int .i64 seq, .int .i64 exp, .string host, .string pre, .string pool, .slice a ts.length tc] 25))
  have k0 := fcell0 (unhide X1) 0 _ rfl
  have k3 := fcell0 (unhide X1) 3 _ rfl
  have k4 := fcell0 (unhide X1) 4 _ rfl
  have k5 := fcell0 (unhide X1) 5 _ rfl
  have k6 := fcell0 (unhide X1) 6 _ rfl
  have k7 := fcell0 (unhide X1) 7 _ rfl
  have st := s.later (unhide b1)
  have s0 := st.cell.1
  have ST := hide st
  clear st
  go_enter Tryz.func84, Tryz.ntmps84
  go_wp2_with fail
  generalize hB : w.heap.size = B at *
  generalize w.alloc (.cells #[.int .i64 act, .int .i64 cli, .int .i64 seq, .int .i64 exp, .string host, .string pre, .string pool, .slice a ts.length tc] 25) = V at *
  have BV := hide (show B < V.heap.size from (Array.getElem?_eq_some_iff.1 (unhide X1)).1)
  have HK := hide (show ∀ W : World, Below V.heap.size V W → W.cell? ⟨B, 0, none⟩ = some (.int .i64 act) ∧ W.cell? ⟨B, 4, none⟩ = some (.string host) ∧ W.cell? ⟨B, 5, none⟩ = some (.string pre) ∧ W.cell? ⟨B, 6, none⟩ = some (.string pool) ∧ W.cell? ⟨B, 7, none⟩ = some (.slice a ts.length tc) from fun W hb => ⟨cell_later hb k0, cell_later hb k4, cell_later hb k5, cell_later hb k6, cell_later hb k7⟩)
  clear k0 k4 k5 k6 k7
  generalize hv : x.ver = ver at *
  have HV := hide hv
  clear hv
  by_cases hge : 0 ≤ exp
  · have q1 : decide (0 ≤ exp) = true := decide_eq_true hge
    by_cases hne : exp = ver
    · as_aux_lemma =>
      subst hne
      have NG := hide (show ¬ (0 ≤ exp ∧ exp ≠ exp) from fun e => e.2 rfl)
      go_quiet (fail)
      have BN : ∀ k, Below V.heap.size V (V.drewN k) := fun k => ⟨(Below.refl V.heap.size V).os, (Below.refl V.heap.size V).tape, (Below.refl V.heap.size V).output, (Below.refl V.heap.size V).size, (Below.refl V.heap.size V).block⟩
      generalize hVN : V.drewN _ = W1
      have F := hide (show Below V.heap.size V W1 from hVN ▸ BN _)
      clear BN hVN
      have b2 := hide (show Below w.heap.size w W1 by rw [hB]; exact (unhide b1).trans ((unhide F).mono (by have := (unhide b1).size; omega)))
      obtain ⟨k0, k4, k5, k6, k7⟩ := unhide HK _ (unhide F)
      by_cases h1 : act = 1
      · as_aux_lemma =>
        subst h1
        have hd : ∀ a' c', AA a' c' x = putPS ⟨⟨pool, ts⟩, a', c'⟩ x := fun a' c' => by rw [unhide AS, if_neg (unhide NG), if_pos rfl]
        have HD := hide hd
        clear hd AS
        go_wp2_with fail
        have G := hide (show Below W1.heap.size W1 W1.drew from (Below.refl _ _).drew)
        have F := hide ((unhide F).trans ((unhide G).mono (unhide F).size))
        refine wp_region_held_drew (S := fun w' => w'.cell? ⟨B, 6, none⟩ = some (.string pool) ∧ w'.cell? ⟨B, 7, none⟩ = some (.slice a ts.length tc)) (by kernel_rfl) ?_ (fun hHeld => ?_)
        · try dsimp only
          first | exact unhide KC | exact ⟨(unhide HK _ (unhide F)).2.2.2.1, (unhide HK _ (unhide F)).2.2.2.2⟩
        refine hT 0 ?_
        refine hT 1 ?_
        refine hT 2 ?_
        refine hT 3 ?_
        refine hT 4 ?_
        refine wpAnyH_ready (rs := [5]) (by kernel_rfl) (by simp) ?_
        refine AllReadyH.cons rfl (fun K hK => ?_) ?_
        · go_simp
          go_at_call 78
          refine (cloneT_calls _ a tc ts ((unhide HT).later ((unhide b2).trans ((unhide G).mono (unhide b2).size))) (by omega)).mono ?_
          rintro e U ⟨a', c', rfl, ho, hb⟩
          have F := hide ((unhide F).trans (hb.mono (unhide F).size))
          have G := hide ((unhide G).trans (hb.mono (unhide G).size))
          have TA := hide (ho.at_ (unhide HT).lt)
          clear ho hb
          go_wp2_with fail
          refine hK.out _ _ ?_ (fun hHeld => ?_)
          · try dsimp only
            first | exact unhide KC | exact ⟨(unhide HK _ (unhide F)).2.2.2.1, (unhide HK _ (unhide F)).2.2.2.2⟩
          clear hK K
          refine hP ?_
          refine hT 6 ?_
          refine wpAnyH_ready (rs := [7]) (by kernel_rfl) (by simp) ?_
          refine AllReadyH.cons rfl (fun K hK => ?_) ?_
          · go_simp
            go_at_call 102
            refine (putPool_calls (s.later ((unhide b2).trans ((unhide G).mono (unhide b2).size))) hx pool ts a' c' (unhide TA) z3 ⟨z4, z5⟩).mono ?_
            rintro e U2 ⟨rfl, sd, cd⟩
            have KC := hide (show U2.cell? ⟨B, 6, none⟩ = some (.string pool) ∧ U2.cell? ⟨B, 7, none⟩ = some (.slice a ts.length tc) by
              obtain ⟨t1, t2, t3, t4⟩ := s.lts
              obtain ⟨_, _, _, q6, q7⟩ := unhide HK _ (unhide F)
              have hk : U2.heap[B]? = U.heap[B]? := cd.block B (by have := (unhide F).size; have := unhide BV; omega) (by omega) (by omega) (by omega) (by omega)
              exact ⟨(World.cell?_of_block hk).trans q6, (World.cell?_of_block hk).trans q7⟩)
            have SD := hide sd
            have CD := hide ((Chg.below (h := h) ((unhide b2).trans ((unhide G).mono (unhide b2).size))).trans cd)
            clear sd cd
            go_wp2_with fail
            refine hK.out _ _ ?_ (fun hHeld => ?_)
            · try dsimp only
              first | exact unhide KC | exact ⟨(unhide HK _ (unhide F)).2.2.2.1, (unhide HK _ (unhide F)).2.2.2.2⟩
            clear hK K
            refine hP ?_
            refine hT 8 ?_
            refine wpAnyH_done (by kernel_rfl) ?_ _
            go_wp2
            go_ret
            exact ⟨a', c', by rw [unhide HD]; rfl, by rw [unhide HD]; exact unhide SD, unhide CD⟩
          exact AllReadyH.nil
        exact AllReadyH.nil
      · by_cases h2 : act = 2
        · as_aux_lemma =>
          subst h2
          have hd : AA none 0 x = dropPS pool x := by rw [unhide AS, if_neg (unhide NG), if_neg h1, if_pos rfl]
          have DP := hide (dropPool_calls (s.later (unhide b2)) pool (by simp only [maxLen]; omega))
          have HD := hide hd
          clear hd AS h1
          go_wp2_with fail
          refine (unhide DP).mono ?_
          rintro e U2 ⟨rfl, sd, cd⟩
          have SD := hide sd
          have CD := hide ((Chg.below (h := h) (unhide b2)).trans cd)
          clear sd cd DP
          go_wp2
          go_ret
          exact ⟨none, 0, by rw [unhide HD]; rfl, by rw [unhide HD]; exact unhide SD, unhide CD⟩
        · by_cases h3 : act = 3
          · as_aux_lemma =>
            subst h3
            have hd : AA none 0 x = putRS ⟨host, pre, pool⟩ x := by rw [unhide AS, if_neg (unhide NG), if_neg h1, if_neg h2, if_pos rfl]
            have DP := hide (putRoute_calls (s.later (unhide b2)) hx host pre pool ⟨z1, z2, z3⟩)
            have HD := hide hd
            clear hd AS h1 h2
            go_wp2_with fail
            refine (unhide DP).mono ?_
            rintro e U2 ⟨rfl, sd, cd⟩
            have SD := hide sd
            have CD := hide ((Chg.below (h := h) (unhide b2)).trans cd)
            clear sd cd DP
            go_wp2
            go_ret
            exact ⟨none, 0, by rw [unhide HD]; rfl, by rw [unhide HD]; exact unhide SD, unhide CD⟩
          · as_aux_lemma =>
            have hd : AA none 0 x = dropRS (host, pre) x := by rw [unhide AS, if_neg (unhide NG), if_neg h1, if_neg h2, if_neg h3]
            have DP := hide (dropRoute_calls (s.later (unhide b2)) (host, pre) (by simp only [maxLen]; omega))
            have HD := hide hd
            clear hd AS
            go_wp2_with fail
            refine (unhide DP).mono ?_
            rintro e U2 ⟨rfl, sd, cd⟩
            have SD := hide sd
            have CD := hide ((Chg.below (h := h) (unhide b2)).trans cd)
            clear sd cd DP
            go_wp2
            go_ret
            exact ⟨none, 0, by rw [unhide HD]; rfl, by rw [unhide HD]; exact unhide SD, unhide CD⟩
    · as_aux_lemma =>
      have q2 : decide (exp = ver) = false := decide_eq_false hne
      have hd : ∀ a' c', AA a' c' x = (12, x) := fun a' c' => by rw [unhide AS, if_pos ⟨hge, hne⟩]
      have HD := hide hd
      clear hd
      go_quiet (fail)
      have BN : ∀ k, Below V.heap.size V (V.drewN k) := fun k => ⟨(Below.refl V.heap.size V).os, (Below.refl V.heap.size V).tape, (Below.refl V.heap.size V).output, (Below.refl V.heap.size V).size, (Below.refl V.heap.size V).block⟩
      generalize hVN : V.drewN _ = W1
      have F := hide (show Below V.heap.size V W1 from hVN ▸ BN _)
      clear BN hVN

      have b2 := hide (show Below w.heap.size w W1 by rw [hB]; exact (unhide b1).trans ((unhide F).mono (by have := (unhide b1).size; omega)))
      have SD := hide (s.later (unhide b2))
      have CD := hide (Chg.below (h := h) (unhide b2))
      clear AS
      go_wp2
      go_ret
      exact ⟨none, 0, by rw [unhide HD]; rfl, by rw [unhide HD]; exact unhide SD, unhide CD⟩
  · as_aux_lemma =>
    have q1 : decide (0 ≤ exp) = false := decide_eq_false hge
    have NG := hide (show ¬ (0 ≤ exp ∧ exp ≠ ver) from fun e => hge e.1)
    go_quiet (fail)
    have BN : ∀ k, Below V.heap.size V (V.drewN k) := fun k => ⟨(Below.refl V.heap.size V).os, (Below.refl V.heap.size V).tape, (Below.refl V.heap.size V).output, (Below.refl V.heap.size V).size, (Below.refl V.heap.size V).block⟩
    generalize hVN : V.drewN _ = W1
    have F := hide (show Below V.heap.size V W1 from hVN ▸ BN _)
    clear BN hVN
    have b2 := hide (show Below w.heap.size w W1 by rw [hB]; exact (unhide b1).trans ((unhide F).mono (by have := (unhide b1).size; omega)))
    obtain ⟨k0, k4, k5, k6, k7⟩ := unhide HK _ (unhide F)
    by_cases h1 : act = 1
    · as_aux_lemma =>
      subst h1
      have hd : ∀ a' c', AA a' c' x = putPS ⟨⟨pool, ts⟩, a', c'⟩ x := fun a' c' => by rw [unhide AS, if_neg (unhide NG), if_pos rfl]
      have HD := hide hd
      clear hd AS
      go_wp2_with fail
      have G := hide (show Below W1.heap.size W1 W1.drew from (Below.refl _ _).drew)
      have F := hide ((unhide F).trans ((unhide G).mono (unhide F).size))
      refine wp_region_held_drew (S := fun w' => w'.cell? ⟨B, 6, none⟩ = some (.string pool) ∧ w'.cell? ⟨B, 7, none⟩ = some (.slice a ts.length tc)) (by kernel_rfl) ?_ (fun hHeld => ?_)
      · try dsimp only
        first | exact unhide KC | exact ⟨(unhide HK _ (unhide F)).2.2.2.1, (unhide HK _ (unhide F)).2.2.2.2⟩
      refine hT 0 ?_
      refine hT 1 ?_
      refine hT 2 ?_
      refine hT 3 ?_
      refine hT 4 ?_
      refine wpAnyH_ready (rs := [5]) (by kernel_rfl) (by simp) ?_
      refine AllReadyH.cons rfl (fun K hK => ?_) ?_
      · go_simp
        go_at_call 78
        refine (cloneT_calls _ a tc ts ((unhide HT).later ((unhide b2).trans ((unhide G).mono (unhide b2).size))) (by omega)).mono ?_
        rintro e U ⟨a', c', rfl, ho, hb⟩
        have F := hide ((unhide F).trans (hb.mono (unhide F).size))
        have G := hide ((unhide G).trans (hb.mono (unhide G).size))
        have TA := hide (ho.at_ (unhide HT).lt)
        clear ho hb
        go_wp2_with fail
        refine hK.out _ _ ?_ (fun hHeld => ?_)
        · try dsimp only
          first | exact unhide KC | exact ⟨(unhide HK _ (unhide F)).2.2.2.1, (unhide HK _ (unhide F)).2.2.2.2⟩
        clear hK K
        refine hP ?_
        refine hT 6 ?_
        refine wpAnyH_ready (rs := [7]) (by kernel_rfl) (by simp) ?_
        refine AllReadyH.cons rfl (fun K hK => ?_) ?_
        · go_simp
          go_at_call 102
          refine (putPool_calls (s.later ((unhide b2).trans ((unhide G).mono (unhide b2).size))) hx pool ts a' c' (unhide TA) z3 ⟨z4, z5⟩).mono ?_
          rintro e U2 ⟨rfl, sd, cd⟩
          have KC := hide (show U2.cell? ⟨B, 6, none⟩ = some (.string pool) ∧ U2.cell? ⟨B, 7, none⟩ = some (.slice a ts.length tc) by
            obtain ⟨t1, t2, t3, t4⟩ := s.lts
            obtain ⟨_, _, _, q6, q7⟩ := unhide HK _ (unhide F)
            have hk : U2.heap[B]? = U.heap[B]? := cd.block B (by have := (unhide F).size; have := unhide BV; omega) (by omega) (by omega) (by omega) (by omega)
            exact ⟨(World.cell?_of_block hk).trans q6, (World.cell?_of_block hk).trans q7⟩)
          have SD := hide sd
          have CD := hide ((Chg.below (h := h) ((unhide b2).trans ((unhide G).mono (unhide b2).size))).trans cd)
          clear sd cd
          go_wp2_with fail
          refine hK.out _ _ ?_ (fun hHeld => ?_)
          · try dsimp only
            first | exact unhide KC | exact ⟨(unhide HK _ (unhide F)).2.2.2.1, (unhide HK _ (unhide F)).2.2.2.2⟩
          clear hK K
          refine hP ?_
          refine hT 8 ?_
          refine wpAnyH_done (by kernel_rfl) ?_ _
          go_wp2
          go_ret
          exact ⟨a', c', by rw [unhide HD]; rfl, by rw [unhide HD]; exact unhide SD, unhide CD⟩
        exact AllReadyH.nil
      exact AllReadyH.nil
    · by_cases h2 : act = 2
      · as_aux_lemma =>
        subst h2
        have hd : AA none 0 x = dropPS pool x := by rw [unhide AS, if_neg (unhide NG), if_neg h1, if_pos rfl]
        have DP := hide (dropPool_calls (s.later (unhide b2)) pool (by simp only [maxLen]; omega))
        have HD := hide hd
        clear hd AS h1
        go_wp2_with fail
        refine (unhide DP).mono ?_
        rintro e U2 ⟨rfl, sd, cd⟩
        have SD := hide sd
        have CD := hide ((Chg.below (h := h) (unhide b2)).trans cd)
        clear sd cd DP
        go_wp2
        go_ret
        exact ⟨none, 0, by rw [unhide HD]; rfl, by rw [unhide HD]; exact unhide SD, unhide CD⟩
      · by_cases h3 : act = 3
        · as_aux_lemma =>
          subst h3
          have hd : AA none 0 x = putRS ⟨host, pre, pool⟩ x := by rw [unhide AS, if_neg (unhide NG), if_neg h1, if_neg h2, if_pos rfl]
          have DP := hide (putRoute_calls (s.later (unhide b2)) hx host pre pool ⟨z1, z2, z3⟩)
          have HD := hide hd
          clear hd AS h1 h2
          go_wp2_with fail
          refine (unhide DP).mono ?_
          rintro e U2 ⟨rfl, sd, cd⟩
          have SD := hide sd
          have CD := hide ((Chg.below (h := h) (unhide b2)).trans cd)
          clear sd cd DP
          go_wp2
          go_ret
          exact ⟨none, 0, by rw [unhide HD]; rfl, by rw [unhide HD]; exact unhide SD, unhide CD⟩
        · as_aux_lemma =>
          have hd : AA none 0 x = dropRS (host, pre) x := by rw [unhide AS, if_neg (unhide NG), if_neg h1, if_neg h2, if_neg h3]
          have DP := hide (dropRoute_calls (s.later (unhide b2)) (host, pre) (by simp only [maxLen]; omega))
          have HD := hide hd
          clear hd AS
          go_wp2_with fail
          refine (unhide DP).mono ?_
          rintro e U2 ⟨rfl, sd, cd⟩
          have SD := hide sd
          have CD := hide ((Chg.below (h := h) (unhide b2)).trans cd)
          clear sd cd DP
          go_wp2
          go_ret
          exact ⟨none, 0, by rw [unhide HD]; rfl, by rw [unhide HD]; exact unhide SD, unhide CD⟩
end Go.Proofs.YtpkpnedcecjlbaaGreatDoor
end
