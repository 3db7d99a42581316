/- Proved: no route of the host that fits has a longer prefix than the one that is found, and this one fits; for all configurations (those that are short are looked at), hosts and paths; no condition. -/
import Derived.Test.YtfopobdbkbcnnaaPag2
namespace Go.Proofs.Ytfopobdbkbcnnaa.planeLongest
open Go.ChangeShapes Go.WideShapes Go.ChangeAt Go.RowKit
set_option linter.unusedVariables false

theorem own : ownKnob Try.prog.godebug = none := by kernel_rfl
theorem laidOut : laidOutB Try.prog = true := by kernel_rfl

theorem best_no (ho q : ByteArray) (l : List Rt) : ∀ n, bestN ho q l n = none → ∀ i, i < n → okR ho q (l.getD i rt0) = false
  | 0, _, i, hi => by omega
  | n + 1, h, i, hi => by
    unfold bestN at h
    by_cases hk : okR ho q (l.getD n rt0) = true
    · rw [if_pos hk] at h
      cases hb : bestN ho q l n with
      | none => rw [hb] at h; cases h
      | some b' => rw [hb] at h; simp only at h; split at h <;> cases h
    · rw [if_neg hk] at h
      rcases Nat.lt_or_ge i n with h1 | h1
      · exact best_no ho q l n h i h1
      · have : i = n := by omega
        subst this; simpa using hk
theorem best_ok (ho q : ByteArray) (l : List Rt) : ∀ n b, bestN ho q l n = some b → okR ho q (l.getD b rt0) = true ∧ ∀ i, i < n → okR ho q (l.getD i rt0) = true → (l.getD i rt0).p.size ≤ (l.getD b rt0).p.size
  | 0, b, h => by cases h
  | n + 1, b, h => by
    unfold bestN at h
    by_cases hk : okR ho q (l.getD n rt0) = true
    · rw [if_pos hk] at h
      cases hb : bestN ho q l n with
      | none =>
        rw [hb] at h
        cases h
        refine ⟨hk, fun i hi ho' => ?_⟩
        rcases Nat.lt_or_ge i n with h1 | h1
        · exact absurd ho' (by rw [best_no ho q l n hb i h1]; decide)
        · have : i = n := by omega
          subst this; exact Nat.le_refl _
      | some b' =>
        rw [hb] at h
        obtain ⟨a1, a2⟩ := best_ok ho q l n b' hb
        simp only at h
        split at h
        · rename_i hl
          cases h
          refine ⟨hk, fun i hi ho' => ?_⟩
          rcases Nat.lt_or_ge i n with h1 | h1
          · have := a2 i h1 ho'; omega
          · have : i = n := by omega
            subst this; exact Nat.le_refl _
        · rename_i hl
          cases h
          refine ⟨a1, fun i hi ho' => ?_⟩
          rcases Nat.lt_or_ge i n with h1 | h1
          · exact a2 i h1 ho'
          · have : i = n := by omega
            subst this; omega
    · rw [if_neg hk] at h
      obtain ⟨a1, a2⟩ := best_ok ho q l n b h
      refine ⟨a1, fun i hi ho' => ?_⟩
      rcases Nat.lt_or_ge i n with h1 | h1
      · exact a2 i h1 ho'
      · have : i = n := by omega
        subst this; exact absurd ho' hk
def sameR (x r : Rt) : Bool := (x.h.toList == r.h.toList) && ((x.p.toList == r.p.toList) && (x.l.toList == r.l.toList))
theorem sameR_refl (r : Rt) : sameR r r = true := by simp [sameR]
def thereN (ho q : ByteArray) (l : List Rt) (r : Rt) : Nat → Bool
  | 0 => false
  | j + 1 => thereN ho q l r j || (okR ho q (l.getD j rt0) && sameR (l.getD j rt0) r)
theorem thereN_yes (ho q : ByteArray) (l : List Rt) (r : Rt) : ∀ n b, b < n → okR ho q (l.getD b rt0) = true → sameR (l.getD b rt0) r = true → thereN ho q l r n = true
  | 0, b, h, _, _ => by omega
  | n + 1, b, h, h1, h2 => by
    unfold thereN
    rcases Nat.lt_or_ge b n with h3 | h3
    · rw [thereN_yes ho q l r n b h3 h1 h2, Bool.true_or]
    · have : b = n := by omega
      subst this
      rw [h1, h2]
      simp
set_option maxRecDepth 20000 in
set_option maxHeartbeats 8000000 in
theorem walk (e : Cf) (h : CfH) (ho q : ByteArray) (w : World) (hc : CfAt w e h) (_h1 : ho.size ≤ maxLen) (h2 : q.size ≤ maxLen) :
    Calls Try.prog 4 #[cfVal e h, .string ho, .string q] w fun e w' => e = .returned (.bool true) ∧ Below w.heap.size w w' := by
  have b1 : Below w.heap.size w (w.alloc (.cells #[.int .i64 e.ver, .slice h.ra e.rs.length h.rc, .slice h.pa e.ps.length h.pc] 25)) := (Below.refl _ _).alloc (Nat.le_refl _) _
  have X1 := hide (heap_new w (.cells #[.int .i64 e.ver, .slice h.ra e.rs.length h.rc, .slice h.pa e.ps.length h.pc] 25))
  have SC := hide (short_calls (hc.later b1))
  have FC := hide (fun W (hb : Below w.heap.size w W) => find_calls (hc.rts.later hb) e.rs.length h.rc rfl hc.rl.1 e.ver h.pa e.ps.length h.pc ho q)
  have H := hide hc.rts
  have B1 := hide b1
  have hrl := hc.rl.1
  obtain ⟨ver, rs, ps⟩ := e
  obtain ⟨ra, rc, pa, pc⟩ := h
  unfold cfVal at *
  simp only at *
  simp only [maxLen] at hrl
  generalize hn : rs.length = n at *
  have HN := hide hn
  have HQ := hide h2
  generalize ps.length = pn at *
  clear hc b1 hn h2
  have c0 := fcell0 (unhide X1) 0 _ rfl
  have c1 := fcell0 (unhide X1) 1 _ rfl
  have c2 := fcell0 (unhide X1) 2 _ rfl
  cases hs : shortC ⟨ver, rs, ps⟩ with
  | false =>
    rw [hs] at SC
    go_enter Try.func4, Try.ntmps4
    go_wp2_with (first
      | (go_at_call 11; refine (unhide SC).mono ?_; rintro r V1 ⟨rfl, v1⟩; have D1 := hide ((unhide B1).trans (v1.mono (unhide B1).size)); clear v1)
      | (go_at_call 12; refine (live10_calls _).mono ?_; rintro r V2 ⟨rfl, v2⟩; have D2 := hide ((unhide D1).trans (v2.mono (unhide D1).size)); clear v2))
    go_ret
    exact ⟨rfl, unhide D2⟩
  | true =>
    rw [hs] at SC
    cases hb : bestN ho q rs n with
    | none =>
      have NO := hide (best_no ho q rs n hb)
      rw [hb] at FC
      rw [show findV rs none = .tuple #[.agg #[.string ⟨#[]⟩, .string ⟨#[]⟩, .string ⟨#[]⟩], .bool false] from rfl] at FC
      go_enter Try.func4, Try.ntmps4
      go_wp2_with (first
        | (go_at_call 11; refine (unhide SC).mono ?_; rintro r V1 ⟨rfl, v1⟩; have D1 := hide ((unhide B1).trans (v1.mono (unhide B1).size)); have k0 := cell_later v1 c0; have k1 := cell_later v1 c1; have k2 := cell_later v1 c2; clear v1)
        | (go_at_call 14; refine (unhide FC _ (unhide D1)).mono ?_; rintro r V2 ⟨rfl, v2⟩; have D2 := hide ((unhide D1).trans (v2.mono (unhide D1).size)); have m1 := cell_later v2 k1; clear v2))
      have W3 := hide (show Below w.heap.size w (V2.alloc (.cells #[.string ⟨#[]⟩, .string ⟨#[]⟩, .string ⟨#[]⟩] 30)) from (unhide D2).alloc (unhide D2).size _)
      have z1 := cell_later (show Below V2.heap.size V2 (V2.alloc (.cells #[.string ⟨#[]⟩, .string ⟨#[]⟩, .string ⟨#[]⟩] 30)) from (Below.refl _ _).alloc (Nat.le_refl _) _) m1
      have Z2 := hide (heap_new V2 (.cells #[.string ⟨#[]⟩, .string ⟨#[]⟩, .string ⟨#[]⟩] 30))
      have ZS := hide (show V2.heap.size < (V2.alloc (.cells #[.string ⟨#[]⟩, .string ⟨#[]⟩, .string ⟨#[]⟩] 30)).heap.size by simp)
      generalize hV3 : V2.alloc (.cells #[.string ⟨#[]⟩, .string ⟨#[]⟩, .string ⟨#[]⟩] 30) = V3 at *
      clear hV3
      go_loopw [9, 10] (fun t i wr => ∃ j : Nat, j ≤ n ∧ i = .int .i64 (j : Int) ∧ t = (.bool false) ∧ Hid (Below V3.heap.size V3 wr)) (fun _ i _ => n - (intOf i).toNat)
      case atStart => exact ⟨0, by omega, rfl, rfl, hide (Below.refl _ _)⟩
      case round =>
        obtain ⟨j, hj, rfl, rfl, B⟩ := hrel
        have F := hide ((unhide W3).trans ((unhide B).mono (unhide W3).size))
        have y1' := cell_later (unhide B) z1
        have ZB := hide (later_block (unhide B) (unhide Z2))
        by_cases hjn : j < n
        · have y0 : (0 : Int) ≤ (j : Int) := by omega
          have y1 : (j : Int) < (n : Int) := by omega
          have hjl : j < rs.length := by rw [unhide HN]; exact hjn
          obtain ⟨b, off, rfl, q0, q1, q2⟩ := (unhide H).cell j hjl
          have p0 := cell_later (unhide F) q0
          have p1 := cell_later (unhide F) q1
          have p2 := cell_later (unhide F) q2
          have hsz := (unhide H).sz _ (List.getElem_mem hjl)
          have RA := hide (rt_at rs j hjl)
          have NJ := hide (unhide NO j hjn)
          rw [unhide RA] at NJ
          generalize rs[j] = r at *
          obtain ⟨rh, rp, rl⟩ := r
          simp only at p0 p1 p2 hsz
          have RF := hide (rfits_calls rp q hsz.2.1 (unhide HQ) (wr.alloc (.cells #[.string rh, .string rp, .string rl] 30)))
          have B3 := hide ((unhide B).alloc (unhide B).size (.cells #[.string rh, .string rp, .string rl] 30))
          have OK := hide (show okR ho q ⟨rh, rp, rl⟩ = ((rh.toList == ho.toList) && fitsL rp.data.toList q.data.toList) from rfl)
          clear q0 q1 q2 hsz RA
          cases hh : (rh.toList == ho.toList) with
          | false =>
            clear RF OK NJ
            go_wp2
            exact ⟨⟨j + 1, by omega, by go_num, rfl, unhide B3⟩, by simp [intOf]; omega⟩
          | true =>
            cases hf : fitsL rp.data.toList q.data.toList with
            | false =>
              rw [hf] at RF
              clear OK NJ
              go_wp2_with (go_at_call 17; refine (unhide RF).mono ?_; rintro e w' ⟨rfl, rfl⟩)
              exact ⟨⟨j + 1, by omega, by go_num, rfl, unhide B3⟩, by simp [intOf]; omega⟩
            | true =>
              rw [hh, hf] at OK
              exact absurd ((unhide NJ).symm.trans (unhide OK)) (by decide)
        · have hjj : ¬ (j : Int) < (n : Int) := by omega
          obtain rfl : j = n := by omega
          go_wp2_with (go_at_call 12; refine (live10_calls _).mono ?_; rintro r V5 ⟨rfl, v5⟩; have D5 := hide ((unhide F).trans (v5.mono (unhide F).size)); clear v5)
          go_ret
          exact ⟨rfl, unhide D5⟩
    | some bb =>
      obtain ⟨ok1, mx⟩ := best_ok ho q rs n bb hb
      have hbn := bestN_lt ho q rs n bb hb
      have hbl : bb < rs.length := by rw [unhide HN]; exact hbn
      have TT := hide (thereN_yes ho q rs (rs.getD bb rt0) n bb hbn ok1 (sameR_refl _))
      have MX := hide mx
      have SZ := hide (show (rs.getD bb rt0).p.size ≤ maxLen by rw [rt_at rs bb hbl]; exact ((unhide H).sz _ (List.getElem_mem hbl)).2.1)
      rw [hb] at FC
      rw [show findV rs (some bb) = .tuple #[.agg #[.string (rs.getD bb rt0).h, .string (rs.getD bb rt0).p, .string (rs.getD bb rt0).l], .bool true] from rfl] at FC
      clear hbl hbn mx
      generalize rs.getD bb rt0 = fr at *
      obtain ⟨fh, fp, fl⟩ := fr
      simp only at FC MX SZ
      have hok : ((fh.toList == ho.toList) && fitsL fp.data.toList q.data.toList) = true := ok1
      simp only [Bool.and_eq_true] at hok
      obtain ⟨hho, hfi⟩ := hok
      have RE := hide (fun (W : World) => rfits_calls fp q (unhide SZ) (unhide HQ) W)
      rw [hfi] at RE
      clear ok1 hb hfi
      go_enter Try.func4, Try.ntmps4
      go_wp2_with (first
        | (go_at_call 11; refine (unhide SC).mono ?_; rintro r V1 ⟨rfl, v1⟩; have D1 := hide ((unhide B1).trans (v1.mono (unhide B1).size)); have k0 := cell_later v1 c0; have k1 := cell_later v1 c1; have k2 := cell_later v1 c2; clear v1)
        | (go_at_call 14; refine (unhide FC _ (unhide D1)).mono ?_; rintro r V2 ⟨rfl, v2⟩; have D2 := hide ((unhide D1).trans (v2.mono (unhide D1).size)); have m1 := cell_later v2 k1; clear v2))
      have W3 := hide (show Below w.heap.size w (V2.alloc (.cells #[.string fh, .string fp, .string fl] 30)) from (unhide D2).alloc (unhide D2).size _)
      have z1 := cell_later (show Below V2.heap.size V2 (V2.alloc (.cells #[.string fh, .string fp, .string fl] 30)) from (Below.refl _ _).alloc (Nat.le_refl _) _) m1
      have Z2 := hide (heap_new V2 (.cells #[.string fh, .string fp, .string fl] 30))
      have ZS := hide (show V2.heap.size < (V2.alloc (.cells #[.string fh, .string fp, .string fl] 30)).heap.size by simp)
      generalize hV3 : V2.alloc (.cells #[.string fh, .string fp, .string fl] 30) = V3 at *
      clear hV3
      go_loopw [9, 10] (fun t i wr => ∃ j : Nat, j ≤ n ∧ i = .int .i64 (j : Int) ∧ t = (.bool (thereN ho q rs ⟨fh, fp, fl⟩ j)) ∧ Hid (Below V3.heap.size V3 wr)) (fun _ i _ => n - (intOf i).toNat)
      case atStart => exact ⟨0, by omega, rfl, rfl, hide (Below.refl _ _)⟩
      case round =>
        obtain ⟨j, hj, rfl, rfl, B⟩ := hrel
        have F := hide ((unhide W3).trans ((unhide B).mono (unhide W3).size))
        have y1' := cell_later (unhide B) z1
        have ZB := hide (later_block (unhide B) (unhide Z2))
        by_cases hjn : j < n
        · have y0 : (0 : Int) ≤ (j : Int) := by omega
          have y1 : (j : Int) < (n : Int) := by omega
          have hjl : j < rs.length := by rw [unhide HN]; exact hjn
          obtain ⟨b, off, rfl, q0, q1, q2⟩ := (unhide H).cell j hjl
          have p0 := cell_later (unhide F) q0
          have p1 := cell_later (unhide F) q1
          have p2 := cell_later (unhide F) q2
          have hsz := (unhide H).sz _ (List.getElem_mem hjl)
          have RA := hide (rt_at rs j hjl)
          have TJ := hide (show thereN ho q rs ⟨fh, fp, fl⟩ (j + 1) = (thereN ho q rs ⟨fh, fp, fl⟩ j || (okR ho q rs[j] && sameR rs[j] ⟨fh, fp, fl⟩)) by rw [← unhide RA]; rfl)
          have LE := hide (show okR ho q rs[j] = true → rs[j].p.size ≤ fp.size from fun h => by rw [← unhide RA] at h ⊢; exact unhide MX j hjn h)
          generalize rs[j] = r at *
          obtain ⟨rh, rp, rl⟩ := r
          simp only at p0 p1 p2 hsz
          have RF := hide (rfits_calls rp q hsz.2.1 (unhide HQ) (wr.alloc (.cells #[.string rh, .string rp, .string rl] 30)))
          have B3 := hide ((unhide B).alloc (unhide B).size (.cells #[.string rh, .string rp, .string rl] 30))
          have OK := hide (show okR ho q ⟨rh, rp, rl⟩ = ((rh.toList == ho.toList) && fitsL rp.data.toList q.data.toList) from rfl)
          clear q0 q1 q2 hsz RA
          cases hh : (rh.toList == ho.toList) with
          | false =>
            have E := hide (show thereN ho q rs ⟨fh, fp, fl⟩ (j + 1) = thereN ho q rs ⟨fh, fp, fl⟩ j by rw [unhide TJ, unhide OK, hh]; simp)
            clear RF OK TJ LE
            generalize thereN ho q rs ⟨fh, fp, fl⟩ j = tj at *
            go_wp2
            exact ⟨⟨j + 1, by omega, by go_num, by rw [unhide E], unhide B3⟩, by simp [intOf]; omega⟩
          | true =>
            cases hf : fitsL rp.data.toList q.data.toList with
            | false =>
              rw [hf] at RF
              have E := hide (show thereN ho q rs ⟨fh, fp, fl⟩ (j + 1) = thereN ho q rs ⟨fh, fp, fl⟩ j by rw [unhide TJ, unhide OK, hf]; simp)
              clear OK TJ LE
              generalize thereN ho q rs ⟨fh, fp, fl⟩ j = tj at *
              go_wp2_with (go_at_call 17; refine (unhide RF).mono ?_; rintro e w' ⟨rfl, rfl⟩)
              exact ⟨⟨j + 1, by omega, by go_num, by rw [unhide E], unhide B3⟩, by simp [intOf]; omega⟩
            | true =>
              rw [hh, hf] at OK
              rw [hf] at RF
              have hle : ¬ ((fp.size : Int) < (rp.size : Int)) := by have := unhide LE (unhide OK); simp only at this; omega
              have E := hide (show thereN ho q rs ⟨fh, fp, fl⟩ (j + 1) = (thereN ho q rs ⟨fh, fp, fl⟩ j || sameR ⟨rh, rp, rl⟩ ⟨fh, fp, fl⟩) by rw [unhide TJ, unhide OK]; simp)
              have SR := hide (show sameR ⟨rh, rp, rl⟩ ⟨fh, fp, fl⟩ = ((rh.toList == fh.toList) && ((rp.toList == fp.toList) && (rl.toList == fl.toList))) from rfl)
              have bl : Below wr.heap.size wr (wr.alloc (.cells #[.string rh, .string rp, .string rl] 30)) := (Below.refl _ _).alloc (Nat.le_refl _) _
              have n0 := cell_later bl (fcell0 (unhide ZB) 0 _ rfl)
              have n1 := cell_later bl (fcell0 (unhide ZB) 1 _ rfl)
              have n2 := cell_later bl (fcell0 (unhide ZB) 2 _ rfl)
              clear OK TJ LE bl
              cases ht : thereN ho q rs ⟨fh, fp, fl⟩ j with
              | true =>
                rw [ht] at E
                go_wp2_with (go_at_call 17; refine (unhide RF).mono ?_; rintro e w' ⟨rfl, rfl⟩)
                exact ⟨⟨j + 1, by omega, by go_num, by rw [unhide E]; rfl, unhide B3⟩, by simp [intOf]; omega⟩
              | false =>
                rw [ht, Bool.false_or] at E
                go_wp2_with (go_at_call 17; refine (unhide RF).mono ?_; rintro e w' ⟨rfl, rfl⟩)
                all_goals exact ⟨⟨j + 1, by omega, by go_num, by rw [unhide E, unhide SR]; simp [*], unhide B3⟩, by simp [intOf]; omega⟩
        · have hjj : ¬ (j : Int) < (n : Int) := by omega
          obtain rfl : j = n := by omega
          have e0 := fcell0 (unhide ZB) 0 _ rfl
          have e1 := fcell0 (unhide ZB) 1 _ rfl
          rw [unhide TT]
          go_wp2_with (first
            | (go_at_call 12; refine (live10_calls _).mono ?_; rintro r V5 ⟨rfl, v5⟩; have D5 := hide ((unhide F).trans (v5.mono (unhide F).size)); have x0 := cell_later v5 e0; have x1 := cell_later v5 e1; clear v5)
            | (go_at_call 17; refine (unhide RE _).mono ?_; rintro e w' ⟨rfl, rfl⟩))
          go_ret
          exact ⟨rfl, unhide D5⟩

set_option maxRecDepth 100000 in
theorem lifted (os : Os) (started : os.Started) (H : Type) (enc : TypeId × Value → H) :
    ReturnsInHanded {} Try.checked os 4 .any (Rows.planeLongestSpec.pre6 enc Try.prog Try.f4 Rows.planeLongestRow.domain false) (Rows.planeLongestSpec.post enc Try.prog Try.f4 false true false false) := by
  refine returnsInHanded_of_change_sized (C := Try.checked) own started (by kernel_rfl) Try.func4
    (ChangeSpec.witness6 (enc := enc) (C := Try.checked) false ⟨#[], #[.agg #[.int .i64 0, .slice none 0 0, .slice none 0 0], .string ⟨#[]⟩, .string ⟨#[]⟩], []⟩ 8 (by kernel_rfl) (by kernel_rfl) (by kernel_rfl) (by kernel_rfl)) ?_
  intro W base args ds gs before hval0 hW hcnd hsz _
  have hval : ∀ (j : Nat) t v, Try.f4.params[j]? = some t → args[j]? = some v → Value.okWide Try.prog W .any base t v := hval0
  have hW' := hW
  obtain ⟨p, q, hA0, hV, rfl, hfz, hnd⟩ := hW
  have hA : DataW.TrodAll enc Try.prog W 0 (fun _ => true) true Try.f4.params.toList args.toList ds p := hA0
  rw [Try.params4] at hA hval
  obtain ⟨v0, vs0, d0, ds0, p0, q0, hargs, rfl, rfl, h0, r0⟩ := trodAll_cons hA
  obtain ⟨v1, vs1, d1, ds1, p1, q1, rfl, rfl, rfl, h1, r1⟩ := trodAll_cons r0
  obtain ⟨v2, vs2, d2, ds2, p2, q2, rfl, rfl, rfl, h2, r2⟩ := trodAll_cons r1
  obtain ⟨rfl, rfl, rfl⟩ := trodAll_nil r2
  obtain rfl : args = #[v0, v1, v2] := by cases args; simp_all
  obtain ⟨rfl, rfl⟩ := trodVars_none hV
  have k0 := h0
  have lt0 : ∀ x ∈ p0, x.block < W.heap.size := by obtain ⟨m, hm⟩ := k0; exact DataW.trod_lt m _ _ _ hm
  obtain ⟨e0, q0, rfl, hb0⟩ := open_conf (hval 0 25 v0 rfl rfl) h0
  obtain ⟨n1, rfl, rfl, rfl, hn1⟩ := ChangeMaps.open_string Try.underlying9 (hval 1 9 v1 rfl rfl) h1
  obtain ⟨n2, rfl, rfl, rfl, hn2⟩ := ChangeMaps.open_string Try.underlying9 (hval 2 9 v2 rfl rfl) h2
  clear hA0 hval0
  refine (walk e0 q0 n1 n2 W hb0 hn1 hn2).mono fun e W' ⟨he, bel⟩ => ?_
  subst he
  exact ⟨_, rfl, _, _, _, [], _, [], hW', trodAll_mk1 (shut_bool Try.underlying4 _), (trodAll_cons_mk (Below.trod laidOut (by kernel_rfl) (of_decide_eq_true (by kernel_rfl)) k0 bel lt0) (trodAll_cons_mk (ChangeMaps.shut_string Try.underlying9 hn1) (trodAll_cons_mk (ChangeMaps.shut_string Try.underlying9 hn2) trodAll_mk0))), rfl, bel.frame _, fun h => by cases h⟩

theorem proved : Rows.PlaneLongestSaid :=
  OpenClaim.holds_of_wide 4 Try.f4 rfl rfl rfl rfl rfl rfl rfl ⟨rfl, rfl, rfl, rfl, rfl⟩ rfl rfl rfl rfl rfl (by kernel_rfl) Try.func4 (by kernel_rfl)
    (of_decide_eq_true (by kernel_rfl)) (by unfold Func.isWrapper; first | (rw [if_pos (by decide +kernel)]; kernel_rfl) | (rw [if_neg (by decide +kernel)]; exact ⟨rfl, rfl⟩))
    (fun os started H enc _ => lifted os started H enc)
end Go.Proofs.Ytfopobdbkbcnnaa.planeLongest
namespace Go.Proofs.Ytfopobdbkbcnnaa
theorem planeLongest_holds : Rows.PlaneLongestSaid := planeLongest.proved
#print axioms planeLongest_holds
end Go.Proofs.Ytfopobdbkbcnnaa
