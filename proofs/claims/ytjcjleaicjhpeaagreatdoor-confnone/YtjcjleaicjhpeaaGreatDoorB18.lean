/- Conf: dropPool. -/
import Derived.Test.YtjcjleaicjhpeaaGreatDoorB17
import Derived.Maps.RangeWalk
import Derived.Test.YtjcjleaicjhpeaaGreatDoorB15
import Derived.Test.YtjcjleaicjhpeaaGreatDoorB11
import Derived.Test.YtjcjleaicjhpeaaGreatDoorB03
import Derived.Deep.RegionHeld3
section
namespace Go.Proofs.YtjcjleaicjhpeaaGreatDoor
open Go.ChangeShapes Go.WideShapes Go.ChangeAt Go.RowKit
set_option linter.unusedVariables false

/-- A pool dropped. -/
def dropPS (nm : ByteArray) (x : Sm) : Int × Sm := match lget qnm nm x.ps with
  | none => (8, x)
  | some _ => if x.rs.any (fun r => decide (r.l = nm)) then (13, x) else (0, { x with ps := ldel qnm nm x.ps })
theorem text_eq (a b : ByteArray) : (a.toList == b.toList) = decide (a = b) := by
  rw [ByteArray.toList_eq, ByteArray.toList_eq, Bool.eq_iff_iff, beq_iff_eq, decide_eq_true_eq]
  exact ⟨fun h => bytes_ext h, fun h => by rw [h]⟩
set_option maxRecDepth 20000 in
set_option maxHeartbeats 8000000 in
theorem dropPool_calls {w : World} {h : StH} {x : Sm} (s : StAt w h x) (nm : ByteArray) (hp : nm.size ≤ maxLen) :
    Calls Tryz.prog 139 #[.pointer (some ⟨h.S, 0, none⟩), .string nm] w fun e w' => e = .returned (.int .i64 (dropPS nm x).1) ∧ StAt w' h (dropPS nm x).2 ∧ Chg h w w' := by
  have c1 := s.cell.2.1
  have lk := lookP s nm hp
  have DR := hide (show dropPS nm x = (match lget qnm nm x.ps with
    | none => (8, x)
    | some _ => if x.rs.any (fun r => decide (r.l = nm)) then (13, x) else (0, { x with ps := ldel qnm nm x.ps })) from rfl)
  generalize hq : ((lget qnm nm x.ps).getD ⟨⟨⟨#[]⟩, []⟩, none, 0⟩) = q at *
  generalize hi : (lget qnm nm x.ps).isSome = ii at *
  have HI := hide hi
  clear hi hq
  obtain ⟨⟨qn, qt⟩, qa, qc⟩ := q
  simp only [pqV] at lk
  have b1 := hide (show Below w.heap.size w (w.alloc (.cells #[.string qn, .slice qa qt.length qc] 54)) from (Below.refl _ _).alloc (Nat.le_refl _) _)
  cases ii with
  | false =>
    have hg : lget qnm nm x.ps = none := by
      have h1 := unhide HI
      cases hg : lget qnm nm x.ps with
      | none => rfl
      | some v => rw [hg] at h1; cases h1
    have hd : dropPS nm x = (8, x) := by rw [unhide DR, hg]
    have ch := hide (Chg.below (h := h) (unhide b1))
    have st3 := hide (s.later (unhide b1))
    clear DR
    go_enter Tryz.func139, Tryz.ntmps139
    go_wp2
    go_ret
    rw [hd]
    exact ⟨rfl, unhide st3, unhide ch⟩
  | true =>
    have LP := hide (show ∃ v, lget qnm nm x.ps = some v by
      have h1 := unhide HI
      cases hg : lget qnm nm x.ps with
      | none => rw [hg] at h1; cases h1
      | some v => exact ⟨v, rfl⟩)
    obtain ⟨pv, hpv⟩ := unhide LP
    have LP := hide hpv
    have sV := hide (s.later (unhide b1))
    have c2 := (unhide sV).cell.2.2.1
    obtain ⟨D, hD, hS, hL, hH, hA⟩ := (unhide sV).rm.left
    have HD := hide hD
    have HL0 := hide hL
    have HH := hide hH
    have HA := hide hA
    have RISE := hide (unhide sV).rm.rise
    have OKK := hide (unhide sV).rm.okk
    clear hpv hD hL hH hA hS
    go_enter Tryz.func139, Tryz.ntmps139
    go_wp2_with (at_range; refine unhide ?_)
    refine hide ?_
    generalize w.alloc (.cells #[.string qn, .slice qa qt.length qc] 54) = V at *
    refine wpList_range_own _ rfl _ 76 rfl 89 56 placeLaw mapTR _ h.R x.fr.length D rfl (unhide HD) ?_
    intro w0 hrg0 hg0 hs0
    have RG0 := hide hrg0
    have F0 := hide (show Below V.heap.size V w0 from ⟨hg0.os, hg0.tape, hg0.output, hg0.size, fun i hi => hg0.block i hi (by simp)⟩)
    clear hrg0 hg0 hs0
    go_frame
    go_wp2_with fail
    generalize hr : V.heap.size = r at *
    go_loopw [8] (fun _ wr => ∃ (left : Lit → Bool) (cnt : Nat) (ks : List Pl), Hid (wr.ranges Tryz.prog 89 valElem h.R r x.fr.length D left cnt) ∧ Hid (LeftK kxP x.fr ks left) ∧ Hid (∀ kl, left kl = true → Maps.has D kl = true) ∧ Hid (∀ y ∈ x.rs, rpl y ∈ ks → y.l ≠ nm) ∧ Hid (Below r V wr)) (fun _ wr => wr.rangeLeft h.R r)
    case atStart =>
      exact ⟨Maps.has D, Maps.size D, [], RG0, HL0, hide (fun _ e => e), hide (fun y _ e => by simp at e), F0⟩
    case round =>
      obtain ⟨left, cnt, ks, RG, HL, HS, HN, F⟩ := hrel
      go_wp2_with (at_next; refine unhide ?_)
      refine hide ?_
      refine wpList_next_ranges _ rfl _ rfl 89 placeLaw valElem plV (fun v : Value => v) (fun key kl hkey => by obtain ⟨k, _, e, _⟩ := kxP.inv hkey; exact ⟨k, e⟩) (fun v y _ => ⟨v, rfl⟩) h.R r x.fr.length D left cnt rfl (unhide RG) ?_ ?_
      · intro hc0 hl0
        have PM := hide ((unhide HL).perm (unhide RISE) hl0)
        have hall : x.rs.any (fun r => decide (r.l = nm)) = false := by
          rw [List.any_eq_false]
          intro y hy e
          exact unhide HN y hy ((unhide PM).mem_iff.2 (List.mem_map.2 ⟨(rpl y, rtVal y), List.mem_map.2 ⟨y, hy, rfl⟩, rfl⟩)) (of_decide_eq_true e)
        have hd : dropPS nm x = (0, { x with ps := ldel qnm nm x.ps }) := by
          rw [unhide DR, unhide LP]
          simp only [hall]
          rfl
        have bW := hide (show Below V.heap.size V wr by rw [hr]; exact unhide F)
        obtain ⟨W3, hdel, sd, cd⟩ := ((unhide sV).later (unhide bW)).delP nm hp
        have cP := ((unhide sV).later (unhide bW)).cell.2.1
        have SD := hide sd
        have CD := hide ((Chg.below (h := h) ((unhide b1).trans ((unhide bW).mono (unhide b1).size))).trans cd)
        clear sd cd DR hc0 hl0
        go_wp2
        go_ret
        first
          | rw [hd]
          | skip
        exact ⟨rfl, unhide SD, unhide CD⟩
      · intro k c kl y w1 cnt1 hkey hlk hR hat hrg1 hlt hg1 hs1 hen
        obtain ⟨k2, hk2, e1, e2⟩ := kxP.inv hkey
        obtain rfl : k = k2 := kxP.vinj e1
        have hin := unhide HH k hk2 (e2 ▸ unhide HS kl hlk)
        obtain ⟨⟨k', v⟩, hm, ek⟩ := List.mem_map.1 hin
        simp only at ek
        subst ek
        obtain ⟨r1, hr1, er⟩ := List.mem_map.1 hm
        simp only [Prod.mk.injEq] at er
        have hkr : rpl r1 = k' := er.1
        have hy1 : y.1 = .held v := by rw [← hat (.held v), e2]; exact unhide HA _ hm _
        have hcv : c = v := by
          simp only [valElem, Option.some.injEq] at hR
          rw [← hR] at hy1
          simpa using hy1
        have hcr : c = .agg #[.string r1.h, .string r1.p, .string r1.l] := by rw [hcv, ← er.2]; rfl
        subst hcr
        have F1 := hide ((unhide F).grown hg1 (by have := (unhide F).size; omega) (fun g' hg' => by have := Option.some.inj hg'; omega))
        have RG1 := hide hrg1
        have HC := hide hlt
        have F2 := hide ((unhide F1).alloc (by have := (unhide F1).size; omega) (.cells #[.string r1.h, .string r1.p, .string r1.l] 56))
        have RG2 := hide ((unhide RG1).alloc (.cells #[.string r1.h, .string r1.p, .string r1.l] 56))
        have XB := hide (heap_new w1 (.cells #[.string r1.h, .string r1.p, .string r1.l] 56))
        have d2 := fcell0 (unhide XB) 2 _ rfl
        have e5 := text_eq r1.l nm
        have LX := hide ((unhide HL).step sameP (unhide OKK) hin (e2 ▸ hlk))
        have KR := hide hkr
        have R1 := hide hr1
        have E2 := hide e2
        clear hkey hR hat hrg1 hlt hg1 hs1 hin hm er hy1 hcv e1 hk2
        by_cases hln : r1.l = nm
        · have hany : x.rs.any (fun r => decide (r.l = nm)) = true := List.any_eq_true.2 ⟨r1, unhide R1, decide_eq_true hln⟩
          have hd : dropPS nm x = (13, x) := by
            rw [unhide DR, unhide LP]
            simp only [hany]
            rfl
          have hdec : decide (r1.l = nm) = true := decide_eq_true hln
          rw [hdec] at e5
          have bW := hide (show Below V.heap.size V (w1.alloc (.cells #[.string r1.h, .string r1.p, .string r1.l] 56)) by rw [hr]; exact unhide F2)
          have SD := hide ((unhide sV).later (unhide bW))
          have CD := hide (Chg.below (h := h) ((unhide b1).trans ((unhide bW).mono (unhide b1).size)))
          clear DR hln hany hdec
          go_wp2
          go_ret
          first
            | rw [hd]
            | skip
          exact ⟨rfl, unhide SD, unhide CD⟩
        · have hdec : decide (r1.l = nm) = false := decide_eq_false hln
          rw [hdec] at e5
          have HN2 := hide (show ∀ y ∈ x.rs, rpl y ∈ ks ++ [k'] → y.l ≠ nm from fun y hy hk => by
            rcases List.mem_append.1 hk with hk | hk
            · exact unhide HN y hy hk
            · have hk3 : rpl y = k' := by simpa using hk
              have hg1 := (unhide RISE).get (show (rpl y, rtVal y) ∈ x.fr from List.mem_map.2 ⟨y, hy, rfl⟩)
              have hg2 := (unhide RISE).get (show (rpl r1, rtVal r1) ∈ x.fr from List.mem_map.2 ⟨r1, unhide R1, rfl⟩)
              rw [hk3] at hg1
              rw [unhide KR, hg1] at hg2
              have h3 := Option.some.inj hg2
              simp only [rtVal, Value.agg.injEq] at h3
              have h4 : y.l = r1.l := by
                have h5 := congrArg (fun a : Array Value => a[2]?) h3
                simpa using h5
              rw [h4]
              exact hln)
          have HS2 := hide (show ∀ q, (left q && !q.sameKey kl) = true → Maps.has D q = true from fun q hq => by
            simp only [Bool.and_eq_true] at hq
            exact unhide HS q hq.1)
          have LX2 := hide (show LeftK kxP x.fr (ks ++ [k']) (fun z => left z && !z.sameKey kl) by rw [unhide E2]; exact unhide LX)
          clear hln hdec DR
          go_wp2
          exact ⟨⟨_, cnt1, ks ++ [k'], RG2, LX2, HS2, HN2, F2⟩, by rw [(unhide RG2).left_eq, (unhide RG).left_eq]; exact unhide HC⟩
end Go.Proofs.YtjcjleaicjhpeaaGreatDoor
end
/- Conf: dropRoute. -/
section
namespace Go.Proofs.YtjcjleaicjhpeaaGreatDoor
open Go.ChangeShapes Go.WideShapes Go.ChangeAt Go.RowKit
set_option linter.unusedVariables false

set_option maxRecDepth 20000 in
set_option maxHeartbeats 4000000 in
theorem dropRoute_calls {w : World} {h : StH} {x : Sm} (s : StAt w h x) (p : Pl) (hp : p.1.size ≤ maxLen ∧ p.2.size ≤ maxLen) :
    Calls Tryz.prog 141 #[.pointer (some ⟨h.S, 0, none⟩), .agg #[.string p.1, .string p.2]] w fun e w' => e = .returned (.int .i64 (dropRS p x).1) ∧ StAt w' h (dropRS p x).2 ∧ Chg h w w' := by
  have b1 := hide (show Below w.heap.size w (w.alloc (.cells #[.string p.1, .string p.2] 89)) from (Below.refl _ _).alloc (Nat.le_refl _) _)
  have X1 := hide (heap_new w (.cells #[.string p.1, .string p.2] 89))
  have SS := hide (show ∀ W : World, Below (w.alloc (.cells #[.string p.1, .string p.2] 89)).heap.size (w.alloc (.cells #[.string p.1, .string p.2] 89)) W → W.cell? ⟨h.S, 2, none⟩ = some (.map (some h.R)) ∧ W.cell? ⟨w.heap.size, 0, none⟩ = some (.string p.1) ∧ W.cell? ⟨w.heap.size, 1, none⟩ = some (.string p.2) ∧ (Instr.lookup 76 (.map (some h.R)) (.agg #[.string p.1, .string p.2]) true).run Tryz.prog W = .ok (.tuple #[rtVal ((lget rpl p x.rs).getD rt0), .bool (lget rpl p x.rs).isSome]) W from fun W hb => by
    have st := s.later ((unhide b1).trans (hb.mono (unhide b1).size))
    have hk := later_block hb (unhide X1)
    exact ⟨st.cell.2.2.1, fcell0 hk 0 _ rfl, fcell0 hk 1 _ rfl, lookR st p hp⟩)
  have DR := hide (show dropRS p x = (match lget rpl p x.rs with | none => (8, x) | some _ => (0, { x with rs := ldel rpl p x.rs })) from rfl)
  go_enter Tryz.func141, Tryz.ntmps141
  go_wp2_with fail
  generalize hB : w.heap.size = B at *
  generalize w.alloc (.cells #[.string p.1, .string p.2] 89) = V at *
  generalize hq : ((lget rpl p x.rs).getD rt0) = q at *
  generalize hi : (lget rpl p x.rs).isSome = ii at *
  have HI := hide hi
  have F := hide (show Below V.heap.size V V.drew from (Below.refl _ _).drew)
  clear hi hq
  obtain ⟨qh, qp, ql⟩ := q
  simp only [rtVal] at SS
  refine wp_region_held_drew (S := fun w' => w'.cell? ⟨h.S, 2, none⟩ = some (.map (some h.R)) ∧ w'.cell? ⟨B, 0, none⟩ = some (.string p.1) ∧ w'.cell? ⟨B, 1, none⟩ = some (.string p.2) ∧ (Instr.lookup 76 (.map (some h.R)) (.agg #[.string p.1, .string p.2]) true).run Tryz.prog w' = .ok (.tuple #[.agg #[.string qh, .string qp, .string ql], .bool ii]) w') (by kernel_rfl) ?_ (fun hHeld => ?_)
  · try dsimp only
    exact unhide SS _ (unhide F)
  refine hT 0 ?_
  refine hT 1 ?_
  refine hT 2 ?_
  refine hT 3 ?_
  refine hT 4 ?_
  refine hT 5 ?_
  refine hT 6 ?_
  refine hT 7 ?_
  refine hT 8 ?_
  refine wpAnyH_ready (rs := [9]) (by kernel_rfl) (by simp) ?_
  refine AllReadyH.cons rfl (fun K hK => ?_) ?_
  · refine step_zR rfl rfl ?_
    intro E U hE hEn hb
    have LE := hide (show V.heap.size ≤ E by rw [← hE]; exact (unhide F).size)
    have HE := hide hEn
    have F := hide ((unhide F).trans (hb.mono (unhide F).size))
    clear hE hEn hb
    refine hK.out _ _ ?_ (fun hHeld => ?_)
    · try dsimp only
      exact unhide SS _ (unhide F)
    clear hK K
    refine hP ?_
    refine wpAnyH_ready (rs := [10]) (by kernel_rfl) (by simp) ?_
    refine AllReadyH.cons rfl (fun K hK => ?_) ?_
    · have z0 := fcell0 (unhide HE) 0 _ rfl
      have z1 := fcell0 (unhide HE) 1 _ rfl
      have z2 := fcell0 (unhide HE) 2 _ rfl
      have f0 : U.frozen? ⟨E, 0, none⟩ = false := by simp [World.frozen?, unhide HE]
      have f1 : U.frozen? ⟨E, 1, none⟩ = false := by simp [World.frozen?, unhide HE]
      have f2 : U.frozen? ⟨E, 2, none⟩ = false := by simp [World.frozen?, unhide HE]
      have a1 := set3 (x := .string qh) (y := .string qp) (z := .string ql) (unhide HE)
      have F := hide ((unhide F).grown a1.2 (unhide F).size (fun g e => by have := Option.some.inj e; have := unhide LE; omega))
      clear a1
      go_simp
      clear z0 z1 z2 f0 f1 f2
      refine hK.out _ _ ?_ (fun hHeld => ?_)
      · try dsimp only
        exact unhide SS _ (unhide F)
      clear hK K
      refine hP ?_
      refine hT 11 ?_
      refine wpAnyH_done (by kernel_rfl) ?_ _
      generalize (((U.setCell ⟨E, 0, none⟩ (.string qh)).setCell ⟨E, 1, none⟩ (.string qp)).setCell ⟨E, 2, none⟩ (.string ql)) = U2 at *
      clear hHeld HE LE
      have S2 := hide (unhide SS _ (unhide F))
      have b2 := hide ((unhide b1).trans ((unhide F).mono (by have := (unhide b1).size; omega)))
      have st := hide (s.later (show Below w.heap.size w U2 by rw [hB]; exact unhide b2))
      cases ii with
      | false =>
        have hd : dropRS p x = (8, x) := by
          have h1 := unhide HI
          rw [unhide DR]
          cases hg : lget rpl p x.rs with
          | none => rfl
          | some v => rw [hg] at h1; cases h1
        have ch := hide (show Chg h w U2 from Chg.below (by rw [hB]; exact unhide b2))
        clear DR
        go_wp2
        go_ret
        rw [hd]
        exact ⟨rfl, unhide st, unhide ch⟩
      | true =>
        have hd : dropRS p x = (0, { x with rs := ldel rpl p x.rs }) := by
          have h1 := unhide HI
          rw [unhide DR]
          cases hg : lget rpl p x.rs with
          | none => rw [hg] at h1; cases h1
          | some v => rfl
        have bD := hide (show Below V.heap.size V U2.drew from (unhide F).drew)
        obtain ⟨W3, hdel, sd, cd⟩ := ((unhide st).later (Below.refl _ _).drew).delR p hp
        have SD := hide sd
        have CD := hide ((Chg.below (h := h) (w := w) (w' := U2) (by rw [hB]; exact unhide b2)).trans ((Chg.below (Below.refl _ _).drew).trans cd))
        clear sd cd DR
        go_wp2_with fail
        refine wp_region_held_drew (S := fun w' => w' = U2.drew ∨ w' = W3) (by kernel_rfl) ?_ (fun hHeld => ?_)
        · try dsimp only
          first | exact .inl rfl | exact .inr rfl
        refine hT 0 ?_
        refine hT 1 ?_
        refine hT 2 ?_
        refine wpAnyH_ready (rs := [3, 4]) (by kernel_rfl) (by simp) ?_
        refine AllReadyH.cons rfl (fun K hK => ?_) ?_
        · have e3 := (unhide SS _ (unhide bD)).1
          go_simp
          clear e3
          refine hK.out _ _ ?_ (fun hHeld => ?_)
          · try dsimp only
            first | exact .inl rfl | exact .inr rfl
          clear hK K
          refine hP ?_
          refine wpAnyH_ready (rs := [4]) (by kernel_rfl) (by simp) ?_
          refine AllReadyH.cons rfl (fun K hK => ?_) ?_
          · have e3 := (unhide SS _ (unhide bD)).2.1
            have e4 := (unhide SS _ (unhide bD)).2.2.1
            go_simp
            clear e3 e4
            refine hK.out _ _ ?_ (fun hHeld => ?_)
            · try dsimp only
              first | exact .inl rfl | exact .inr rfl
            clear hK K
            refine hP ?_
            refine wpAnyH_ready (rs := [5]) (by kernel_rfl) (by simp) ?_
            refine AllReadyH.cons rfl (fun K hK => ?_) ?_
            · go_simp
              refine hK.out _ _ ?_ (fun hHeld => ?_)
              · try dsimp only
                first | exact .inl rfl | exact .inr rfl
              clear hK K
              refine hP ?_
              refine wpAnyH_done (by kernel_rfl) ?_ _
              go_wp2
              go_ret
              exact ⟨rfl, unhide SD, unhide CD⟩
            exact AllReadyH.nil
          exact AllReadyH.nil
        refine AllReadyH.cons rfl (fun K hK => ?_) ?_
        · have e3 := (unhide SS _ (unhide bD)).2.1
          have e4 := (unhide SS _ (unhide bD)).2.2.1
          go_simp
          clear e3 e4
          refine hK.out _ _ ?_ (fun hHeld => ?_)
          · try dsimp only
            first | exact .inl rfl | exact .inr rfl
          clear hK K
          refine hP ?_
          refine wpAnyH_ready (rs := [3]) (by kernel_rfl) (by simp) ?_
          refine AllReadyH.cons rfl (fun K hK => ?_) ?_
          · have e3 := (unhide SS _ (unhide bD)).1
            go_simp
            clear e3
            refine hK.out _ _ ?_ (fun hHeld => ?_)
            · try dsimp only
              first | exact .inl rfl | exact .inr rfl
            clear hK K
            refine hP ?_
            refine wpAnyH_ready (rs := [5]) (by kernel_rfl) (by simp) ?_
            refine AllReadyH.cons rfl (fun K hK => ?_) ?_
            · go_simp
              refine hK.out _ _ ?_ (fun hHeld => ?_)
              · try dsimp only
                first | exact .inl rfl | exact .inr rfl
              clear hK K
              refine hP ?_
              refine wpAnyH_done (by kernel_rfl) ?_ _
              go_wp2
              go_ret
              exact ⟨rfl, unhide SD, unhide CD⟩
            exact AllReadyH.nil
          exact AllReadyH.nil
        exact AllReadyH.nil
    exact AllReadyH.nil
  exact AllReadyH.nil
end Go.Proofs.YtjcjleaicjhpeaaGreatDoor
end
/- Conf: Check. -/
section
namespace Go.Proofs.YtjcjleaicjhpeaaGreatDoor
open Go.ChangeShapes Go.WideShapes Go.ChangeAt Go.RowKit
set_option linter.unusedVariables false

/-- A command's value, and where its targets lie. -/
def cmdVal (c : Cmd) (a : Option Addr) (tc : Nat) : Value := .agg #[.int .i64 c.act, .int .i64 c.cli, .int .i64 c.seq, .int .i64 c.exp, .string c.host, .string c.pre, .string c.pool, .slice a c.ts.length tc]
def cmdRow (c : Cmd) (a : Option Addr) (tc : Nat) : Array Value := #[.int .i64 c.act, .int .i64 c.cli, .int .i64 c.seq, .int .i64 c.exp, .string c.host, .string c.pre, .string c.pool, .slice a c.ts.length tc]
structure CmdAt (w : World) (c : Cmd) (a : Option Addr) (tc : Nat) : Prop where
  tgs : TgsAt w a c.ts
  tz : ∀ t ∈ c.ts, t.1.size ≤ 140737488355328
  th : c.host.size ≤ 140737488355328
  tp : c.pre.size ≤ 140737488355328
  tl : c.pool.size ≤ 140737488355328
  tn : c.ts.length ≤ maxLen ∧ c.ts.length ≤ tc
  tnil : a = none → tc = 0
  ia : -9223372036854775808 ≤ c.act ∧ c.act ≤ 9223372036854775807
  ic : -9223372036854775808 ≤ c.cli ∧ c.cli ≤ 9223372036854775807
  is : -9223372036854775808 ≤ c.seq ∧ c.seq ≤ 9223372036854775807
  ie : -9223372036854775808 ≤ c.exp ∧ c.exp ≤ 9223372036854775807
theorem CmdAt.later {w w' : World} {c : Cmd} {a : Option Addr} {tc : Nat} (h : CmdAt w c a tc) (hb : Below w.heap.size w w') : CmdAt w' c a tc :=
  ⟨h.tgs.later hb, h.tz, h.th, h.tp, h.tl, h.tn, h.tnil, h.ia, h.ic, h.is, h.ie⟩
def cmdBox (c : Cmd) (a : Option Addr) (tc : Nat) : Obj := .cells (cmdRow c a tc) 33
set_option maxRecDepth 20000 in
set_option maxHeartbeats 8000000 in
theorem numbersMayBe_calls (c : Cmd) (a : Option Addr) (tc : Nat) (w : World) : Calls Tryz.prog 36 #[cmdVal c a tc] w fun e w' => e = .returned (.bool (numsOk c)) ∧ Below w.heap.size w w' := by
  have HE := hide (show numsOk c = (decide (1 ≤ c.act ∧ c.act ≤ 4) && decide (0 ≤ c.cli ∧ c.cli ≤ 32) && (if c.cli = 0 then decide (c.seq = 0) else decide (1 ≤ c.seq ∧ c.seq ≤ 1099511627776)) && decide (-1 ≤ c.exp ∧ c.exp ≤ 1099511627775)) from rfl)
  unfold cmdVal
  obtain ⟨act, cli, seq, exp, host, pre, pool, ts⟩ := c
  simp only at *
  generalize numsOk ⟨act, cli, seq, exp, host, pre, pool, ts⟩ = R at *
  generalize ts.length = tn
  have X1 := hide (heap_new w (.cells #[.int .i64 act, .int .i64 cli, .int .i64 seq, .int .i64 exp, .string host, .string pre, .string pool, .slice a tn tc] 33))
  have k0 := box_cell (unhide X1) 0 _ rfl
  have k1 := box_cell (unhide X1) 1 _ rfl
  have k2 := box_cell (unhide X1) 2 _ rfl
  have k3 := box_cell (unhide X1) 3 _ rfl
  have B0 := hide (show Below w.heap.size w (w.alloc (.cells #[.int .i64 act, .int .i64 cli, .int .i64 seq, .int .i64 exp, .string host, .string pre, .string pool, .slice a tn tc] 33)) from (Below.refl _ _).alloc (Nat.le_refl _) _)
  clear X1
  by_cases hc : cli = 0
  · subst hc
    have HR0 := hide (show R = (decide (1 ≤ act ∧ act ≤ 4) && decide (0 ≤ (0 : Int) ∧ (0 : Int) ≤ 32) && decide (0 ≤ seq ∧ seq ≤ 0) && decide (-1 ≤ exp ∧ exp ≤ 1099511627775)) by rw [unhide HE, if_pos rfl]; congr 2; rw [Bool.eq_iff_iff, decide_eq_true_eq, decide_eq_true_eq]; omega)
    have C1 := hide (fun w => cwithin_calls act 1 4 w)
    have C2 := hide (fun w => cwithin_calls 0 0 32 w)
    have C3 := hide (fun w => cwithin_calls seq 0 0 w)
    have C4 := hide (fun w => cwithin_calls exp (-1) 1099511627775 w)
    clear HE
    generalize decide (1 ≤ act ∧ act ≤ 4) = b1 at *
    generalize decide ((0 : Int) ≤ 0 ∧ (0 : Int) ≤ 32) = b2 at *
    generalize decide (0 ≤ seq ∧ seq ≤ 0) = b3 at *
    generalize decide (-1 ≤ exp ∧ exp ≤ 1099511627775) = b4 at *
    cases b1
    · have HR : R = false := by rw [unhide HR0]; rfl
      go_enter Tryz.func36, Tryz.ntmps36
      go_wp2_with fail
      refine (unhide C1 _).mono ?_
      rintro e V1 ⟨rfl, rfl⟩
      go_wp2
      go_ret
      exact ⟨by rw [HR]; rfl, unhide B0⟩
    · skip
      cases b2
      · have HR : R = false := by rw [unhide HR0]; simp
        go_enter Tryz.func36, Tryz.ntmps36
        go_wp2_with fail
        refine (unhide C1 _).mono ?_
        rintro e V1 ⟨rfl, rfl⟩
        go_wp2_with fail
        refine (unhide C2 _).mono ?_
        rintro e V2 ⟨rfl, rfl⟩
        go_wp2
        go_ret
        exact ⟨by rw [HR]; rfl, unhide B0⟩
      · skip
        cases b3
        · have HR : R = false := by rw [unhide HR0]; simp
          go_enter Tryz.func36, Tryz.ntmps36
          go_wp2_with fail
          refine (unhide C1 _).mono ?_
          rintro e V1 ⟨rfl, rfl⟩
          go_wp2_with fail
          refine (unhide C2 _).mono ?_
          rintro e V2 ⟨rfl, rfl⟩
          go_wp2_with fail
          refine (unhide C3 _).mono ?_
          rintro e V3 ⟨rfl, rfl⟩
          go_wp2
          go_ret
          exact ⟨by rw [HR]; rfl, unhide B0⟩
        · skip
          have HR : R = b4 := by rw [unhide HR0]; rfl
          go_enter Tryz.func36, Tryz.ntmps36
          go_wp2_with fail
          refine (unhide C1 _).mono ?_
          rintro e V1 ⟨rfl, rfl⟩
          go_wp2_with fail
          refine (unhide C2 _).mono ?_
          rintro e V2 ⟨rfl, rfl⟩
          go_wp2_with fail
          refine (unhide C3 _).mono ?_
          rintro e V3 ⟨rfl, rfl⟩
          go_wp2_with fail
          refine (unhide C4 _).mono ?_
          rintro e V4 ⟨rfl, rfl⟩
          go_wp2
          go_ret
          exact ⟨by rw [HR]; rfl, unhide B0⟩
  · have hci : (cli == 0) = false := by simpa using hc
    have HR0 := hide (show R = (decide (1 ≤ act ∧ act ≤ 4) && decide (0 ≤ cli ∧ cli ≤ 32) && decide (1 ≤ seq ∧ seq ≤ 1099511627776) && decide (-1 ≤ exp ∧ exp ≤ 1099511627775)) by rw [unhide HE, if_neg hc])
    have C1 := hide (fun w => cwithin_calls act 1 4 w)
    have C2 := hide (fun w => cwithin_calls cli 0 32 w)
    have C3 := hide (fun w => cwithin_calls seq 1 1099511627776 w)
    have C4 := hide (fun w => cwithin_calls exp (-1) 1099511627775 w)
    clear HE
    generalize decide (1 ≤ act ∧ act ≤ 4) = b1 at *
    generalize decide (0 ≤ cli ∧ cli ≤ 32) = b2 at *
    generalize decide (1 ≤ seq ∧ seq ≤ 1099511627776) = b3 at *
    generalize decide (-1 ≤ exp ∧ exp ≤ 1099511627775) = b4 at *
    cases b1
    · have HR : R = false := by rw [unhide HR0]; rfl
      go_enter Tryz.func36, Tryz.ntmps36
      go_wp2_with fail
      refine (unhide C1 _).mono ?_
      rintro e V1 ⟨rfl, rfl⟩
      go_wp2
      go_ret
      exact ⟨by rw [HR]; rfl, unhide B0⟩
    · skip
      cases b2
      · have HR : R = false := by rw [unhide HR0]; simp
        go_enter Tryz.func36, Tryz.ntmps36
        go_wp2_with fail
        refine (unhide C1 _).mono ?_
        rintro e V1 ⟨rfl, rfl⟩
        go_wp2_with fail
        refine (unhide C2 _).mono ?_
        rintro e V2 ⟨rfl, rfl⟩
        go_wp2
        go_ret
        exact ⟨by rw [HR]; rfl, unhide B0⟩
      · skip
        cases b3
        · have HR : R = false := by rw [unhide HR0]; simp
          go_enter Tryz.func36, Tryz.ntmps36
          go_wp2_with fail
          refine (unhide C1 _).mono ?_
          rintro e V1 ⟨rfl, rfl⟩
          go_wp2_with fail
          refine (unhide C2 _).mono ?_
          rintro e V2 ⟨rfl, rfl⟩
          go_wp2_with fail
          refine (unhide C3 _).mono ?_
          rintro e V3 ⟨rfl, rfl⟩
          go_wp2
          go_ret
          exact ⟨by rw [HR]; rfl, unhide B0⟩
        · skip
          have HR : R = b4 := by rw [unhide HR0]; rfl
          go_enter Tryz.func36, Tryz.ntmps36
          go_wp2_with fail
          refine (unhide C1 _).mono ?_
          rintro e V1 ⟨rfl, rfl⟩
          go_wp2_with fail
          refine (unhide C2 _).mono ?_
          rintro e V2 ⟨rfl, rfl⟩
          go_wp2_with fail
          refine (unhide C3 _).mono ?_
          rintro e V3 ⟨rfl, rfl⟩
          go_wp2_with fail
          refine (unhide C4 _).mono ?_
          rintro e V4 ⟨rfl, rfl⟩
          go_wp2
          go_ret
          exact ⟨by rw [HR]; rfl, unhide B0⟩
end Go.Proofs.YtjcjleaicjhpeaaGreatDoor
end
