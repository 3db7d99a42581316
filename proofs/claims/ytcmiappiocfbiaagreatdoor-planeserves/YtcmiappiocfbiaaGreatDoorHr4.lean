/- The document's heads: begins, Host. -/
import Derived.Test.YtcmiappiocfbiaaGreatDoorHr3
namespace Go.Proofs.YtcmiappiocfbiaaGreatDoor
open Go.ChangeShapes Go.WideShapes Go.ChangeAt Go.RowKit
set_option linter.unusedVariables false

def begL (t s : Tx) : Bool := t.isPrefixOf s
theorem prefix_is (t s : Tx) : begL t s = (decide (t.length ≤ s.length) && (s.take t.length == t)) := by
  unfold begL
  rw [Bool.eq_iff_iff, List.isPrefixOf_iff_prefix, Bool.and_eq_true, decide_eq_true_eq, beq_iff_eq]
  constructor
  · rintro ⟨r, rfl⟩
    exact ⟨by simp, List.take_left⟩
  · rintro ⟨_, h⟩
    exact ⟨s.drop t.length, by conv => lhs; lhs; rw [← h]
                               exact List.take_append_drop _ _⟩
set_option maxHeartbeats 2000000 in
theorem beginsR_calls (s t : ByteArray) (hs : s.size ≤ 140737488355328) (ht : t.size ≤ 140737488355328) (w : World) : Calls Tryz.prog 52 #[.string s, .string t] w fun e w' => e = .returned (.bool (begL t.data.toList s.data.toList)) ∧ w' = w := by
  have hE := hide (prefix_is t.data.toList s.data.toList)
  have hl1 : t.data.toList.length = t.size := by simp
  have hl2 : s.data.toList.length = s.size := by simp
  rw [hl1, hl2] at hE
  by_cases h : t.size ≤ s.size
  · have hge : (t.size : Int) ≤ (s.size : Int) := by omega
    have hs1 : ∀ W, (Instr.slice 9 (.string s) none (some (.int .i64 (t.size : Int))) none).run Tryz.prog W = .ok (.string (stS (s.data.toList.take t.size))) W := fun W => by
      rw [run_slice_string_h _ _ _ Tryz.underlying9 _ _ (by omega) (by omega), Int.toNat_natCast, ext_take]
    have hq := str_eq (stS (s.data.toList.take t.size)) t
    rw [stS_list] at hq
    have hz : (stS (s.data.toList.take t.size)).size ≤ 9223372036854775807 := by rw [stS_size, List.length_take]; omega
    rw [decide_eq_true h, Bool.true_and, ← hq] at hE
    have HE := hide (unhide hE)
    clear hq hE
    generalize stS (s.data.toList.take t.size) = u at *
    go_enter Tryz.func52, Tryz.ntmps52
    go_wp2
    go_ret
    exact ⟨by rw [unhide HE]; rfl, rfl⟩
  · have hge : ¬ (t.size : Int) ≤ (s.size : Int) := by omega
    rw [decide_eq_false h, Bool.false_and] at hE
    go_enter Tryz.func52, Tryz.ntmps52
    go_wp2
    go_ret
    exact ⟨by rw [unhide hE]; rfl, rfl⟩
/-- Is a dot ahead of a place, or nothing? -/
def pv (l : Tx) (j : Nat) : Bool := (j == 0) || (l[j - 1]? == some 46)
theorem pv_zero (l : Tx) : pv l 0 = true := rfl
theorem pv_succ (s : ByteArray) (j : Nat) (h : j < s.size) : pv s.data.toList (j + 1) = decide ((s[j]'h) = 46) := by
  have hl : j < s.data.toList.length := by rw [Array.length_toList]; exact h
  unfold pv
  rw [show j + 1 - 1 = j from rfl, List.getElem?_eq_getElem hl]
  show (false || _) = _
  rw [Bool.false_or, Bool.eq_iff_iff, beq_iff_eq, Option.some.injEq, decide_eq_true_eq]
  exact Iff.rfl
set_option maxRecDepth 20000 in
set_option maxHeartbeats 8000000 in
theorem hostR_calls (s : ByteArray) (hs : s.size ≤ 140737488355328) (w : World) : Calls Tryz.prog 40 #[.string s] w fun e w' => e = .returned (hostV s.data.toList) ∧ Below w.heap.size w w' := by
  have HE := hide (hostL_is s.data.toList)
  have CC := hide (cutR_calls s 58 hs w)
  unfold cutV1 at CC
  have hlh : (cutL [58] s.data.toList).1.length ≤ 140737488355328 := by have := cutL_len (sep := [58]) (l := s.data.toList); have h2 : s.data.toList.length = s.size := by { simp }; omega
  have hlp : (behindL [58] s.data.toList).length ≤ 140737488355328 := by have := behindL_len (sep := [58]) (l := s.data.toList); have h2 : s.data.toList.length = s.size := by { simp }; omega
  have HV := hide (show hostV s.data.toList = match hostL s.data.toList with | none => .tuple #[.string ⟨#[]⟩, .bool false] | some x => .tuple #[.string (stS x), .bool true] by unfold hostV; cases hostL s.data.toList <;> rfl)
  generalize (cutL [58] s.data.toList).2.isSome = bs at *
  generalize (cutL [58] s.data.toList).1 = h at *
  generalize behindL [58] s.data.toList = p at *
  have PA := hide (fun W => portR_calls (stS p) (by rw [stS_size]; simp only [maxLen]; omega) W)
  have QA := hide (fun W => partsR_calls (stS h) (by rw [stS_size]; simp only [maxLen]; omega) W)
  have LA := hide (fun W => lowerR_calls (stS h) (by rw [stS_size]; omega) W)
  rw [stS_list] at PA QA LA
  have zh : (stS h).size = h.length := rfl
  have zp : (stS p).size = p.length := rfl
  have NO := hide (show hostL s.data.toList = none → hostV s.data.toList = .tuple #[.string ⟨#[]⟩, .bool false] from fun e => by rw [unhide HV, e])
  have YES := hide (show ∀ x, hostL s.data.toList = some x → hostV s.data.toList = .tuple #[.string (stS x), .bool true] from fun x e => by rw [unhide HV, e])
  by_cases c1 : h.length < 1
  · have NV := hide (unhide NO (by rw [unhide HE, decide_eq_true c1]; rfl))
    have q1 : ((stS h).size : Int) < 1 := by rw [zh]; omega
    clear zh zp NO YES HE HV PA QA LA hs
    generalize stS h = sh at *
    generalize stS p = sp at *
    go_enter Tryz.func40, Tryz.ntmps40
    go_wp2_with (go_at_call 35; refine (unhide CC).mono ?_; rintro e W1 ⟨rfl, hb1⟩; have H1 := hide hb1)
    go_ret2
    exact ⟨by rw [unhide NV]; rfl, unhide H1⟩
  have q1 : ¬ ((stS h).size : Int) < 1 := by rw [zh]; omega
  by_cases c2 : 64 < h.length
  · have NV := hide (unhide NO (by rw [unhide HE, decide_eq_true c2]; simp))
    have q2 : (64 : Int) < ((stS h).size : Int) := by rw [zh]; omega
    clear zh zp NO YES HE HV PA QA LA hs
    generalize stS h = sh at *
    generalize stS p = sp at *
    go_enter Tryz.func40, Tryz.ntmps40
    go_wp2_with (go_at_call 35; refine (unhide CC).mono ?_; rintro e W1 ⟨rfl, hb1⟩; have H1 := hide hb1)
    go_ret2
    exact ⟨by rw [unhide NV]; rfl, unhide H1⟩
  have q2 : ¬ (64 : Int) < ((stS h).size : Int) := by rw [zh]; omega
  by_cases c3 : 5 < p.length
  · have NV := hide (unhide NO (by rw [unhide HE, decide_eq_true c3]; simp))
    have q3 : (5 : Int) < ((stS p).size : Int) := by rw [zp]; omega
    clear zh zp NO YES HE HV PA QA LA hs
    generalize stS h = sh at *
    generalize stS p = sp at *
    go_enter Tryz.func40, Tryz.ntmps40
    go_wp2_with (go_at_call 35; refine (unhide CC).mono ?_; rintro e W1 ⟨rfl, hb1⟩; have H1 := hide hb1)
    go_ret2
    exact ⟨by rw [unhide NV]; rfl, unhide H1⟩
  have q3 : ¬ (5 : Int) < ((stS p).size : Int) := by rw [zp]; omega
  cases c4 : allK 1 p with
  | false =>
    have NV := hide (unhide NO (by rw [unhide HE, c4]; simp))
    rw [c4] at PA
    clear c4 zh zp NO YES HE HV QA LA hs
    generalize stS h = sh at *
    generalize stS p = sp at *
    go_enter Tryz.func40, Tryz.ntmps40
    go_wp2_with (first
      | (go_at_call 35; refine (unhide CC).mono ?_; rintro e W1 ⟨rfl, hb1⟩; have H1 := hide hb1)
      | (go_at_call 55; refine (unhide PA _).mono ?_; rintro e W2 ⟨rfl, hb2⟩; rw [hb2]; clear hb2))
    go_ret2
    exact ⟨by rw [unhide NV]; rfl, unhide H1⟩
  | true =>
  rw [c4] at PA
  cases c5 : allQ inHost h with
  | false =>
    have NV := hide (unhide NO (by rw [unhide HE, show h.all inHost = false from c5]; simp))
    rw [c5] at QA
    clear c4 c5 zh zp NO YES HE HV LA hs
    generalize stS h = sh at *
    generalize stS p = sp at *
    go_enter Tryz.func40, Tryz.ntmps40
    go_wp2_with (first
      | (go_at_call 35; refine (unhide CC).mono ?_; rintro e W1 ⟨rfl, hb1⟩; have H1 := hide hb1)
      | (go_at_call 55; have hV : PA = PA := rfl; clear hV; refine (unhide PA _).mono ?_; rintro e W2 ⟨rfl, hb2⟩; rw [hb2]; clear hb2 PA)
      | (go_at_call 55; have hV : QA = QA := rfl; clear hV; refine (unhide QA _).mono ?_; rintro e W3 ⟨rfl, hb3⟩; rw [hb3]; clear hb3 QA))
    go_ret2
    exact ⟨by rw [unhide NV]; rfl, unhide H1⟩
  | true =>
  rw [c5] at QA
  have HE2 := hide (show hostL s.data.toList = if !dotsR true h then none else some (lowL h) by
    rw [unhide HE, decide_eq_false c1, decide_eq_false c2, decide_eq_false c3, c4, show h.all inHost = true from c5]
    rfl)
  have hh : (stS h).data.toList = h := rfl
  have hsz64 : (stS h).size ≤ 64 := by rw [zh]; omega
  clear c4 c5 zp HE HV hs c1 c2 c3
  generalize stS p = sp at *
  generalize hsh : stS h = sh at *
  clear hsh
  subst hh
  clear zh hlh
  go_enter Tryz.func40, Tryz.ntmps40
  go_wp2_with (first
    | (go_at_call 35; refine (unhide CC).mono ?_; rintro e W1 ⟨rfl, hb1⟩; have H1 := hide hb1)
    | (go_at_call 55; have hV : PA = PA := rfl; clear hV; refine (unhide PA _).mono ?_; rintro e W2 ⟨rfl, hb2⟩; rw [hb2]; clear hb2 PA)
    | (go_at_call 55; have hV : QA = QA := rfl; clear hV; refine (unhide QA _).mono ?_; rintro e W3 ⟨rfl, hb3⟩; rw [hb3]; clear hb3 QA))
  go_loopw [7] (fun i wr => ∃ j : Nat, i = .int .i64 (j : Int) ∧ j ≤ sh.size ∧ Hid (dotsR (pv sh.data.toList j) (sh.data.toList.drop j) = dotsR true sh.data.toList) ∧ Hid (wr = W1)) (fun i _ => sh.size - (intOf i).toNat)
  case atStart => exact ⟨0, rfl, by omega, hide rfl, hide rfl⟩
  case round =>
    obtain ⟨j, rfl, hj, hE, hB⟩ := hrel
    by_cases hjn : j < sh.size
    · have hE2 := hide (show dotsR (pv sh.data.toList j) (sh.data.toList.drop j) = (okD (pv sh.data.toList j) (sh[j]'hjn) (sh.data.toList.drop (j + 1)) && dotsR (pv sh.data.toList (j + 1)) (sh.data.toList.drop (j + 1))) by rw [drop_at sh j hjn, pv_succ sh j hjn]; rfl)
      have hlast : (sh.data.toList.drop (j + 1)).isEmpty = decide (j + 1 = sh.size) := by
        rw [Bool.eq_iff_iff, List.isEmpty_iff, List.drop_eq_nil_iff, decide_eq_true_eq, Array.length_toList]
        have : sh.data.size = sh.size := rfl
        omega
      have PV := hide (show ∀ k (hk : k < sh.size), j = k + 1 → pv sh.data.toList j = decide ((sh[k]'hk) = 46) from fun k hk e => by subst e; exact pv_succ sh k hk)
      generalize hx : (sh[j]'hjn) = x at *
      have hx2 : ∀ hh, (sh[j]'hh) = x := fun _ => hx
      have hw : IntKind.i64.wrap ((j : Int) + 1) = ((j + 1 : Nat) : Int) := by rw [IntKind.wrap_i64]; omega
      have hlt : (j : Int) < (sh.size : Int) := by omega
      have hq : (((x.toNat : Nat) : Int) == 46) = decide (x = 46) := byte_eq x 46
      cases hi : decide (x = 46) with
      | false =>
        rw [hi] at hq
        have hE3 := hide (show dotsR (pv sh.data.toList (j + 1)) (sh.data.toList.drop (j + 1)) = dotsR true sh.data.toList by
          rw [← unhide hE, unhide hE2]; unfold okD; rw [if_neg (of_decide_eq_false hi)]; rfl)
        clear hi hE2 PV hlast
        go_wp2
        go_roundw
        case rel => exact ⟨j + 1, by first | rfl | (rw [hw]), by omega, hE3, hB⟩
        case measure => simp [intOf]; omega
      | true =>
        rw [hi] at hq
        have hE4 := hide (show dotsR true sh.data.toList = (!(pv sh.data.toList j || decide (j + 1 = sh.size)) && dotsR (pv sh.data.toList (j + 1)) (sh.data.toList.drop (j + 1))) by
          rw [← unhide hE, unhide hE2]; unfold okD; rw [if_pos (of_decide_eq_true hi), hlast])
        clear hi hE2 hlast
        have BAD := hide (show dotsR true sh.data.toList = false → hostV s.data.toList = .tuple #[.string ⟨#[]⟩, .bool false] from fun e => unhide NO (by rw [unhide HE2, e]; rfl))
        by_cases h0 : j = 0
        · subst h0
          have NV := hide (unhide BAD (by rw [unhide hE4, pv_zero]; rfl))
          go_wp2
          go_ret2
          exact ⟨by rw [unhide NV]; rfl, by rw [unhide hB]; exact unhide H1⟩
        · obtain ⟨k, rfl⟩ : ∃ k, j = k + 1 := ⟨j - 1, by omega⟩
          have hk : k < sh.size := by omega
          have hpv := unhide PV k hk rfl
          generalize hy : (sh[k]'hk) = y at *
          have hy2 : ∀ hh, (sh[k]'hh) = y := fun _ => hy
          have hj0 : (((k + 1 : Nat) : Int) == 0) = false := by rw [beq_eq_false_iff_ne]; omega
          have hw1 : IntKind.i64.wrap ((sh.size : Int) - 1) = (sh.size : Int) - 1 := by rw [IntKind.wrap_i64]; omega
          have hw2 : IntKind.i64.wrap (((k + 1 : Nat) : Int) - 1) = (k : Int) := by rw [IntKind.wrap_i64]; omega
          have hq2 : (((y.toNat : Nat) : Int) == 46) = decide (y = 46) := byte_eq y 46
          have hjl : (((k + 1 : Nat) : Int) == (sh.size : Int) - 1) = decide (k + 1 + 1 = sh.size) := by rw [Bool.eq_iff_iff, beq_iff_eq, decide_eq_true_eq]; omega
          have hk0 : (0 : Int) ≤ (k : Int) := by omega
          have hk1 : (k : Int) < (sh.size : Int) := by omega
          rw [hpv] at hE4
          generalize hJ : k + 1 = j at *
          cases hl : decide (j + 1 = sh.size) with
          | true =>
            rw [hl] at hjl hE4
            have NV := hide (unhide BAD (by rw [unhide hE4]; simp))
            clear hl
            go_wp2
            go_ret2
            exact ⟨by rw [unhide NV]; rfl, by rw [unhide hB]; exact unhide H1⟩
          | false =>
            rw [hl] at hjl hE4
            clear hl
            cases hd : decide (y = 46) with
            | true =>
              rw [hd] at hq2 hE4
              have NV := hide (unhide BAD (by rw [unhide hE4]; rfl))
              clear hd
              go_wp2
              go_ret2
              exact ⟨by rw [unhide NV]; rfl, by rw [unhide hB]; exact unhide H1⟩
            | false =>
              rw [hd] at hq2 hE4
              have hE3 := hide (show dotsR (pv sh.data.toList (j + 1)) (sh.data.toList.drop (j + 1)) = dotsR true sh.data.toList by rw [unhide hE4]; rfl)
              clear hd
              go_wp2
              go_roundw
              case rel => exact ⟨j + 1, by first | rfl | (rw [hw]), by omega, hE3, hB⟩
              case measure => simp [intOf]; omega
    · obtain rfl : j = sh.size := by omega
      have hlt : ¬ (sh.size : Int) < (sh.size : Int) := by omega
      have NV := hide (unhide YES (lowL sh.data.toList) (by
        rw [unhide HE2, ← unhide hE, drop_end sh sh.size (by omega)]
        rfl))
      go_wp2_with (go_at_call 39; refine (unhide LA _).mono ?_; rintro e W3 ⟨rfl, hb3⟩; have H3 := hide hb3)
      go_ret2
      exact ⟨by rw [unhide NV]; rfl, (unhide H1).trans (by rw [← unhide hB]; exact (unhide H3).mono (by rw [unhide hB]; exact (unhide H1).size))⟩
end Go.Proofs.YtcmiappiocfbiaaGreatDoor
