/- The document's heads: begins, Host. -/
import Derived.Test.YtcmiappiocfbiaaGreatDoorB22
section
namespace Go.Proofs.YtcmiappiocfbiaaGreatDoor
open Go.ChangeShapes Go.WideShapes Go.ChangeAt Go.RowKit
set_option linter.unusedVariables false

def begL (t s : Tx) : Bool := t.isPrefixOf s
theorem prefix_is (t s : Tx) : begL t s = (decide (t.length ≤ s.length) && (s.take t.length == t)) := by
  unfold begL
  rw [Bool.eq_iff_iff, List.isPrefixOf_iff_prefix, Bool.and_eq_true, decide_eq_true_eq, beq_iff_eq]
  constructor
  · rintro ⟨r, rfl⟩
    exact ⟨by simp, List.take_left⟩
  · rintro ⟨_, h⟩
    exact ⟨s.drop t.length, by conv => lhs; lhs; rw [← h]
                               exact List.take_append_drop _ _⟩
set_option maxHeartbeats 2000000 in
theorem beginsR_calls (s t : ByteArray) (hs : s.size ≤ 140737488355328) (ht : t.size ≤ 140737488355328) (w : World) : Calls Tryz.prog 52 #[.string s, .string t] w fun e w' => e = .returned (.bool (begL t.data.toList s.data.toList)) ∧ w' = w := by
  have hE := hide (prefix_is t.data.toList s.data.toList)
  have hl1 : t.data.toList.length = t.size := by simp
  have hl2 : s.data.toList.length = s.size := by simp
  rw [hl1, hl2] at hE
  by_cases h : t.size ≤ s.size
  · have hge : (t.size : Int) ≤ (s.size : Int) := by omega
    have hs1 : ∀ W, (Instr.slice 9 (.string s) none (some (.int .i64 (t.size : Int))) none).run Tryz.prog W = .ok (.string (stS (s.data.toList.take t.size))) W := fun W => by
      rw [run_slice_string_h _ _ _ Tryz.underlying9 _ _ (by omega) (by omega), Int.toNat_natCast, ext_take]
    have hq := str_eq (stS (s.data.toList.take t.size)) t
    rw [stS_list] at hq
    have hz : (stS (s.data.toList.take t.size)).size ≤ 9223372036854775807 := by rw [stS_size, List.length_take]; omega
    rw [decide_eq_true h, Bool.true_and, ← hq] at hE
    have HE := hide (unhide hE)
    clear hq hE
    generalize stS (s.data.toList.take t.size) = u at *
    go_enter Tryz.func52, Tryz.ntmps52
    go_wp2
    go_ret
    exact ⟨by rw [unhide HE]; rfl, rfl⟩
  · have hge : ¬ (t.size : Int) ≤ (s.size : Int) := by omega
    rw [decide_eq_false h, Bool.false_and] at hE
    go_enter Tryz.func52, Tryz.ntmps52
    go_wp2
    go_ret
    exact ⟨by rw [unhide hE]; rfl, rfl⟩
/-- Is a dot ahead of a place, or nothing? -/
def pv (l : Tx) (j : Nat) : Bool := (j == 0) || (l[j - 1]? == some 46)
theorem pv_zero (l : Tx) : pv l 0 = true := rfl
theorem pv_succ (s : ByteArray) (j : Nat) (h : j < s.size) : pv s.data.toList (j + 1) = decide ((s[j]'h) = 46) := by
  have hl : j < s.data.toList.length := by rw [Array.length_toList]; exact h
  unfold pv
  rw [show j + 1 - 1 = j from rfl, List.getElem?_eq_getElem hl]
  show (false || _) = _
  rw [Bool.false_or, Bool.eq_iff_iff, beq_iff_eq, Option.some.injEq, decide_eq_true_eq]
  exact Iff.rfl
set_option maxRecDepth 20000 in
set_option maxHeartbeats 8000000 in
theorem hostR_calls (s : ByteArray) (hs : s.size ≤ 140737488355328) (w : World) : Calls Tryz.prog 40 #[.string s] w fun e w' => e = .returned (hostV s.data.toList) ∧ Below w.heap.size w w' := by
  have HE := hide (hostL_is s.data.toList)
  have CC := hide (cutR_calls s 58 hs w)
  unfold cutV1 at CC
  have hlh : (cutL [58] s.data.toList).1.length ≤ 140737488355328 := by have := cutL_len (sep := [58]) (l := s.data.toList); have h2 : s.data.toList.length = s.size := by { simp }; omega
  have hlp : (behindL [58] s.data.toList).length ≤ 140737488355328 := by have := behindL_len (sep := [58]) (l := s.data.toList); have h2 : s.data.toList.length = s.size := by { simp }; omega
  have HV := hide (show hostV s.data.toList = match hostL s.data.toList with | none => .tuple #[.string ⟨#[]⟩, .bool false] | some x => .tuple #[.string (stS x), .bool true] by unfold hostV; cases hostL s.data.toList <;> rfl)
  generalize (cutL [58] s.data.toList).2.isSome = bs at *
  generalize (cutL [58] s.data.toList).1 = h at *
  generalize behindL [58] s.data.toList = p at *
  have PA := hide (fun W => portR_calls (stS p) (by rw [stS_size]; simp only [maxLen]; omega) W)
  have QA := hide (fun W => partsR_calls (stS h) (by rw [stS_size]; simp only [maxLen]; omega) W)
  have LA := hide (fun W => lowerR_calls (stS h) (by rw [stS_size]; omega) W)
  rw [stS_list] at PA QA LA
  have zh : (stS h).size = h.length := rfl
  have zp : (stS p).size = p.length := rfl
  have NO := hide (show hostL s.data.toList = none → hostV s.data.toList = .tuple #[.string ⟨#[]⟩, .bool false] from fun e => by rw [unhide HV, e])
  have YES := hide (show ∀ x, hostL s.data.toList = some x → hostV s.data.toList = .tuple #[.string (stS x), .bool true] from fun x e => by rw [unhide HV, e])
  by_cases c1 : h.length < 1
  · have NV := hide (unhide NO (by rw [unhide HE, decide_eq_true c1]; rfl))
    have q1 : ((stS h).size : Int) < 1 := by rw [zh]; omega
    clear zh zp NO YES HE HV PA QA LA hs
    generalize stS h = sh at *
    generalize stS p = sp at *
    go_enter Tryz.func40, Tryz.ntmps40
    go_wp2_with (go_at_call 35; refine (unhide CC).mono ?_; rintro e W1 ⟨rfl, hb1⟩; have H1 := hide hb1)
    go_ret2
    exact ⟨by rw [unhide NV]; rfl, unhide H1⟩
  have q1 : ¬ ((stS h).size : Int) < 1 := by rw [zh]; omega
  by_cases c2 : 64 < h.length
  · have NV := hide (unhide NO (by rw [unhide HE, decide_eq_true c2]; simp))
    have q2 : (64 : Int) < ((stS h).size : Int) := by rw [zh]; omega
    clear zh zp NO YES HE HV PA QA LA hs
    generalize stS h = sh at *
    generalize stS p = sp at *
    go_enter Tryz.func40, Tryz.ntmps40
    go_wp2_with (go_at_call 35; refine (unhide CC).mono ?_; rintro e W1 ⟨rfl, hb1⟩; have H1 := hide hb1)
    go_ret2
    exact ⟨by rw [unhide NV]; rfl, unhide H1⟩
  have q2 : ¬ (64 : Int) < ((stS h).size : Int) := by rw [zh]; omega
  by_cases c3 : 5 < p.length
  · have NV := hide (unhide NO (by rw [unhide HE, decide_eq_true c3]; simp))
    have q3 : (5 : Int) < ((stS p).size : Int) := by rw [zp]; omega
    clear zh zp NO YES HE HV PA QA LA hs
    generalize stS h = sh at *
    generalize stS p = sp at *
    go_enter Tryz.func40, Tryz.ntmps40
    go_wp2_with (go_at_call 35; refine (unhide CC).mono ?_; rintro e W1 ⟨rfl, hb1⟩; have H1 := hide hb1)
    go_ret2
    exact ⟨by rw [unhide NV]; rfl, unhide H1⟩
  have q3 : ¬ (5 : Int) < ((stS p).size : Int) := by rw [zp]; omega
  cases c4 : allK 1 p with
  | false =>
    have NV := hide (unhide NO (by rw [unhide HE, c4]; simp))
    rw [c4] at PA
    clear c4 zh zp NO YES HE HV QA LA hs
    generalize stS h = sh at *
    generalize stS p = sp at *
    go_enter Tryz.func40, Tryz.ntmps40
    go_wp2_with (first
      | (go_at_call 35; refine (unhide CC).mono ?_; rintro e W1 ⟨rfl, hb1⟩; have H1 := hide hb1)
      | (go_at_call 55; refine (unhide PA _).mono ?_; rintro e W2 ⟨rfl, hb2⟩; rw [hb2]; clear hb2))
    go_ret2
    exact ⟨by rw [unhide NV]; rfl, unhide H1⟩
  | true =>
  rw [c4] at PA
  cases c5 : allQ inHost h with
  | false =>
    have NV := hide (unhide NO (by rw [unhide HE, show h.all inHost = false from c5]; simp))
    rw [c5] at QA
    clear c4 c5 zh zp NO YES HE HV LA hs
    generalize stS h = sh at *
    generalize stS p = sp at *
    go_enter Tryz.func40, Tryz.ntmps40
    go_wp2_with (first
      | (go_at_call 35; refine (unhide CC).mono ?_; rintro e W1 ⟨rfl, hb1⟩; have H1 := hide hb1)
      | (go_at_call 55; have hV : PA = PA := rfl; clear hV; refine (unhide PA _).mono ?_; rintro e W2 ⟨rfl, hb2⟩; rw [hb2]; clear hb2 PA)
      | (go_at_call 55; have hV : QA = QA := rfl; clear hV; refine (unhide QA _).mono ?_; rintro e W3 ⟨rfl, hb3⟩; rw [hb3]; clear hb3 QA))
    go_ret2
    exact ⟨by rw [unhide NV]; rfl, unhide H1⟩
  | true =>
  rw [c5] at QA
  have HE2 := hide (show hostL s.data.toList = if !dotsR true h then none else some (lowL h) by
    rw [unhide HE, decide_eq_false c1, decide_eq_false c2, decide_eq_false c3, c4, show h.all inHost = true from c5]
    rfl)
  have hh : (stS h).data.toList = h := rfl
  have hsz64 : (stS h).size ≤ 64 := by rw [zh]; omega
  clear c4 c5 zp HE HV hs c1 c2 c3
  generalize stS p = sp at *
  generalize hsh : stS h = sh at *
  clear hsh
  subst hh
  clear zh hlh
  go_enter Tryz.func40, Tryz.ntmps40
  go_wp2_with (first
    | (go_at_call 35; refine (unhide CC).mono ?_; rintro e W1 ⟨rfl, hb1⟩; have H1 := hide hb1)
    | (go_at_call 55; have hV : PA = PA := rfl; clear hV; refine (unhide PA _).mono ?_; rintro e W2 ⟨rfl, hb2⟩; rw [hb2]; clear hb2 PA)
    | (go_at_call 55; have hV : QA = QA := rfl; clear hV; refine (unhide QA _).mono ?_; rintro e W3 ⟨rfl, hb3⟩; rw [hb3]; clear hb3 QA))
  go_loopw [7] (fun i wr => ∃ j : Nat, i = .int .i64 (j : Int) ∧ j ≤ sh.size ∧ Hid (dotsR (pv sh.data.toList j) (sh.data.toList.drop j) = dotsR true sh.data.toList) ∧ Hid (wr = W1)) (fun i _ => sh.size - (intOf i).toNat)
  case atStart => exact ⟨0, rfl, by omega, hide rfl, hide rfl⟩
  case round =>
    obtain ⟨j, rfl, hj, hE, hB⟩ := hrel
    by_cases hjn : j < sh.size
    · have hE2 := hide (show dotsR (pv sh.data.toList j) (sh.data.toList.drop j) = (okD (pv sh.data.toList j) (sh[j]'hjn) (sh.data.toList.drop (j + 1)) && dotsR (pv sh.data.toList (j + 1)) (sh.data.toList.drop (j + 1))) by rw [drop_at sh j hjn, pv_succ sh j hjn]; rfl)
      have hlast : (sh.data.toList.drop (j + 1)).isEmpty = decide (j + 1 = sh.size) := by
        rw [Bool.eq_iff_iff, List.isEmpty_iff, List.drop_eq_nil_iff, decide_eq_true_eq, Array.length_toList]
        have : sh.data.size = sh.size := rfl
        omega
      have PV := hide (show ∀ k (hk : k < sh.size), j = k + 1 → pv sh.data.toList j = decide ((sh[k]'hk) = 46) from fun k hk e => by subst e; exact pv_succ sh k hk)
      generalize hx : (sh[j]'hjn) = x at *
      have hx2 : ∀ hh, (sh[j]'hh) = x := fun _ => hx
      have hw : IntKind.i64.wrap ((j : Int) + 1) = ((j + 1 : Nat) : Int) := by rw [IntKind.wrap_i64]; omega
      have hlt : (j : Int) < (sh.size : Int) := by omega
      have hq : (((x.toNat : Nat) : Int) == 46) = decide (x = 46) := byte_eq x 46
      cases hi : decide (x = 46) with
      | false =>
        rw [hi] at hq
        have hE3 := hide (show dotsR (pv sh.data.toList (j + 1)) (sh.data.toList.drop (j + 1)) = dotsR true sh.data.toList by
          rw [← unhide hE, unhide hE2]; unfold okD; rw [if_neg (of_decide_eq_false hi)]; rfl)
        clear hi hE2 PV hlast
        go_wp2
        go_roundw
        case rel => exact ⟨j + 1, by first | rfl | (rw [hw]), by omega, hE3, hB⟩
        case measure => simp [intOf]; omega
      | true =>
        rw [hi] at hq
        have hE4 := hide (show dotsR true sh.data.toList = (!(pv sh.data.toList j || decide (j + 1 = sh.size)) && dotsR (pv sh.data.toList (j + 1)) (sh.data.toList.drop (j + 1))) by
          rw [← unhide hE, unhide hE2]; unfold okD; rw [if_pos (of_decide_eq_true hi), hlast])
        clear hi hE2 hlast
        have BAD := hide (show dotsR true sh.data.toList = false → hostV s.data.toList = .tuple #[.string ⟨#[]⟩, .bool false] from fun e => unhide NO (by rw [unhide HE2, e]; rfl))
        by_cases h0 : j = 0
        · subst h0
          have NV := hide (unhide BAD (by rw [unhide hE4, pv_zero]; rfl))
          go_wp2
          go_ret2
          exact ⟨by rw [unhide NV]; rfl, by rw [unhide hB]; exact unhide H1⟩
        · obtain ⟨k, rfl⟩ : ∃ k, j = k + 1 := ⟨j - 1, by omega⟩
          have hk : k < sh.size := by omega
          have hpv := unhide PV k hk rfl
          generalize hy : (sh[k]'hk) = y at *
          have hy2 : ∀ hh, (sh[k]'hh) = y := fun _ => hy
          have hj0 : (((k + 1 : Nat) : Int) == 0) = false := by rw [beq_eq_false_iff_ne]; omega
          have hw1 : IntKind.i64.wrap ((sh.size : Int) - 1) = (sh.size : Int) - 1 := by rw [IntKind.wrap_i64]; omega
          have hw2 : IntKind.i64.wrap (((k + 1 : Nat) : Int) - 1) = (k : Int) := by rw [IntKind.wrap_i64]; omega
          have hq2 : (((y.toNat : Nat) : Int) == 46) = decide (y = 46) := byte_eq y 46
          have hjl : (((k + 1 : Nat) : Int) == (sh.size : Int) - 1) = decide (k + 1 + 1 = sh.size) := by rw [Bool.eq_iff_iff, beq_iff_eq, decide_eq_true_eq]; omega
          have hk0 : (0 : Int) ≤ (k : Int) := by omega
          have hk1 : (k : Int) < (sh.size : Int) := by omega
          rw [hpv] at hE4
          generalize hJ : k + 1 = j at *
          cases hl : decide (j + 1 = sh.size) with
          | true =>
            rw [hl] at hjl hE4
            have NV := hide (unhide BAD (by rw [unhide hE4]; simp))
            clear hl
            go_wp2
            go_ret2
            exact ⟨by rw [unhide NV]; rfl, by rw [unhide hB]; exact unhide H1⟩
          | false =>
            rw [hl] at hjl hE4
            clear hl
            cases hd : decide (y = 46) with
            | true =>
              rw [hd] at hq2 hE4
              have NV := hide (unhide BAD (by rw [unhide hE4]; rfl))
              clear hd
              go_wp2
              go_ret2
              exact ⟨by rw [unhide NV]; rfl, by rw [unhide hB]; exact unhide H1⟩
            | false =>
              rw [hd] at hq2 hE4
              have hE3 := hide (show dotsR (pv sh.data.toList (j + 1)) (sh.data.toList.drop (j + 1)) = dotsR true sh.data.toList by rw [unhide hE4]; rfl)
              clear hd
              go_wp2
              go_roundw
              case rel => exact ⟨j + 1, by first | rfl | (rw [hw]), by omega, hE3, hB⟩
              case measure => simp [intOf]; omega
    · obtain rfl : j = sh.size := by omega
      have hlt : ¬ (sh.size : Int) < (sh.size : Int) := by omega
      have NV := hide (unhide YES (lowL sh.data.toList) (by
        rw [unhide HE2, ← unhide hE, drop_end sh sh.size (by omega)]
        rfl))
      go_wp2_with (go_at_call 39; refine (unhide LA _).mono ?_; rintro e W3 ⟨rfl, hb3⟩; have H3 := hide hb3)
      go_ret2
      exact ⟨by rw [unhide NV]; rfl, (unhide H1).trans (by rw [← unhide hB]; exact (unhide H3).mono (by rw [unhide hB]; exact (unhide H1).size))⟩
end Go.Proofs.YtcmiappiocfbiaaGreatDoor
end
/- The document's heads: lines. -/
section
namespace Go.Proofs.YtcmiappiocfbiaaGreatDoor
open Go.ChangeShapes Go.WideShapes Go.ChangeAt Go.RowKit
set_option linter.unusedVariables false

/-- One's own row of texts. -/
def encT (t : Tx) : Value := .string (stS t)
def OwnTx (base : Nat) (w : World) (sp : Option Addr) (c : Nat) (l : List Tx) : Prop := w.ownsRow base 9 1 (.slice sp l.length c) l.length (l.map encT)
theorem infoTx : (Tryz.prog.info? 9).map (fun i => (i.zero, i.size, i.bytes)) = some (some (.string ByteArray.empty), 1, 16) := by kernel_rfl
theorem OwnTx.empty (w : World) (base : Nat) (hb : base ≤ w.heap.size) : OwnTx base (w.alloc (.cells #[] 9)) (some ⟨w.heap.size, 0, none⟩) 0 [] :=
  ⟨rfl, .inr ⟨w.heap.size, 0, #[], rfl, hb, heap_new _ _, Nat.le_refl _, by simp [maxLen], rfl, rfl⟩⟩
theorem OwnTx.later {base : Nat} {w w' : World} {sp : Option Addr} {c : Nat} {l : List Tx} (h : OwnTx base w sp c l) (hb : Below w.heap.size w w') : OwnTx base w' sp c l := by
  refine ⟨h.1, ?_⟩
  rcases h.2 with hv | ⟨g, cap, cur, hv, hbg, hg, r⟩
  · exact .inl hv
  · exact .inr ⟨g, cap, cur, hv, hbg, (hb.block g (Array.getElem?_eq_some_iff.1 hg).1).trans hg, r⟩
/-- Texts in a row. -/
def TxsAt (w : World) (a : Option Addr) (l : List Tx) : Prop := ∀ i (hi : i < l.length), ∃ b off, a = some ⟨b, off, none⟩ ∧ w.cell? ⟨b, off + i, none⟩ = some (.string (stS l[i]))
theorem TxsAt.later {w w' : World} {a : Option Addr} {l : List Tx} (h : TxsAt w a l) (hb : Below w.heap.size w w') : TxsAt w' a l :=
  fun i hi => by obtain ⟨b, off, e, h1⟩ := h i hi; exact ⟨b, off, e, cell_later hb h1⟩
theorem OwnTx.at_ {base : Nat} {w : World} {sp : Option Addr} {c : Nat} {l : List Tx} (h : OwnTx base w sp c l) : TxsAt w sp l := by
  refine fun i hi => ?_
  rcases h.2 with ⟨hv, h0⟩ | ⟨g, cap, cur, hv, hb, hg, hle, hmx, hsz, ht⟩
  · omega
  · simp only [Value.slice.injEq] at hv
    obtain ⟨rfl, _, rfl⟩ := hv
    refine ⟨g, 0, rfl, ?_⟩
    have hk : (l.map encT)[i]? = some (encT l[i]) := by rw [List.getElem?_map, List.getElem?_eq_getElem hi]; rfl
    rw [Nat.zero_add, cell_of_row w g _ cur _ _ hg, ← Array.getElem?_toList]
    rw [← ht, List.getElem?_take, if_pos (by omega)] at hk
    exact hk
theorem run_appendTx {base : Nat} {w : World} {sp : Option Addr} {c : Nat} {l : List Tx} (hown : OwnTx base w sp c l) (B : Nat) (x : Tx) (hB : w.heap[B]? = some (.cells #[.string (stS x)] 9 (0, 0))) (hn : (l.length + 1) * 16 ≤ 140737488355328) (hbase : base ≤ w.heap.size) (ty : TypeId) :
    ∃ sp' c' w', (Builtin.append_ #[77, 77] ty #[.slice sp l.length c, .slice (some ⟨B, 0, none⟩) 1 1]).run Tryz.prog w = .ok (.slice sp' (l.length + 1) c') w' ∧ OwnTx base w' sp' c' (l ++ [x]) ∧ Below base w w' := by
  obtain ⟨i0, hi, hz0, hz1, hz2⟩ := info_parts infoTx
  obtain ⟨v', w', hrun, h1, h2, _⟩ := run_append_own_at (P := Tryz.prog) w base 77 ty 9 i0 _ 1 16 Tryz.underlying77 hi hz0 hz1 hz2 rfl (by omega) _ _ _ hown ⟨B, 0, none⟩ 1 1 [.string (stS x)] rfl
    (fun j u hu => by have := World.news_of_block hB j u; simp only at this; exact this hu) (by intro u hu; simp at hu; subst hu; rfl) (by simp only [maxLen]; omega) (by omega) hbase
  have hv : ∃ sp' c', v' = .slice sp' (l.length + 1) c' := by
    rcases h1.2 with ⟨hv, h0⟩ | ⟨g, cap, cur, hv, _⟩
    · omega
    · exact ⟨_, _, hv⟩
  obtain ⟨sp', c', rfl⟩ := hv
  refine ⟨sp', c', w', hrun, ?_, (Below.refl base w).grown h2 hbase (fun g hg => (hown.lt g hg).1)⟩
  unfold OwnTx
  rw [List.map_append, List.length_append]
  exact h1
theorem wpList_appendTx {w : World} {ops : Array Oper} {rest : List Oper} {o : Oper} {a : Act} {Q : Exit → Act → World → Prop} (hgd : o.guard = none) (s x : Operand)
    (ho : o.op = .call { callee := .builtin .append, args := #[s, x], argTypes := #[77, 77] })
    (base : Nat) (sp : Option Addr) (n c : Nat) (l : List Tx) (hs : a.eval s = .slice sp n c) (hn : l.length = n) (hown : OwnTx base w sp c l) (B : Nat) (t : Tx) (hx : a.eval x = .slice (some ⟨B, 0, none⟩) 1 1)
    (hB : w.heap[B]? = some (.cells #[.string (stS t)] 9 (0, 0))) (hsz : (n + 1) * 16 ≤ 140737488355328) (hbase : base ≤ w.heap.size)
    (hk : ∀ sp' c' w', OwnTx base w' sp' c' (l ++ [t]) → Below base w w' → wpList Tryz.prog ops Q rest (a.put o.dst (.slice sp' (n + 1) c')) w') :
    wpList Tryz.prog ops Q (o :: rest) a w := by
  subst hn
  refine wpList_plain hgd fun K hK => ?_
  obtain ⟨sp', c', w', hrun, h1, h2⟩ := run_appendTx hown B t hB hsz hbase o.type
  unfold Oper.wp
  simp [execOp, ho, resolve, invoke, builtin, hs, hx, hrun, Result.andThen]
  exact hK _ _ (hk sp' c' w' h1 h2)

/-- Does a line end at a place? -/
def endAt (l : Tx) (p : Nat) : Bool := crlf.isPrefixOf (l.drop p)
theorem cut2_at : ∀ (l : Tx) (k : Nat), (∀ p, p < k → endAt l p = false) → endAt l k = true → cutL crlf l = (l.take k, some (l.drop (k + 2)))
  | [], k, _, h => by unfold endAt at h; rw [List.drop_nil] at h; cases h
  | c :: t, 0, _, h => by
    have h' : crlf.isPrefixOf (c :: t) = true := h
    rw [cutL, if_pos h']
    rfl
  | c :: t, k + 1, hn, h => by
    have h0 := hn 0 (by omega)
    have h0' : crlf.isPrefixOf (c :: t) = false := h0
    have ih := cut2_at t k (fun p hp => hn (p + 1) (by omega)) h
    rw [cutL, if_neg (by rw [h0']; decide), ih]
    rfl
theorem cut2_none : ∀ (l : Tx), (∀ p, endAt l p = false) → (cutL crlf l).2 = none
  | [], _ => rfl
  | c :: t, h => by
    have h0 : crlf.isPrefixOf (c :: t) = false := h 0
    have ih := cut2_none t (fun p => h (p + 1))
    rw [cutL, if_neg (by rw [h0]; decide)]
    exact ih
theorem lines_fuel : ∀ (n m : Nat) (l : Tx), l.length ≤ n → l.length ≤ m → linesN n l = linesN m l
  | 0, m, l, h1, h2 => by
    have hl : l = [] := List.length_eq_zero_iff.1 (by omega)
    subst hl
    cases m <;> rfl
  | n + 1, 0, l, h1, h2 => by
    have hl : l = [] := List.length_eq_zero_iff.1 (by omega)
    subst hl
    rfl
  | n + 1, m + 1, l, h1, h2 => by
    unfold linesN
    cases h : (cutL crlf l).2 with
    | none => rfl
    | some b =>
      have hlen := congrArg List.length (cutL_some h)
      simp only [List.length_append, crlf, List.length_cons, List.length_nil] at hlen
      simp only
      rw [lines_fuel n m b (by omega) (by omega)]
theorem lines_cut (l : Tx) (k : Nat) (h1 : ∀ p, p < k → endAt l p = false) (h2 : endAt l k = true) : linesL l = l.take k :: linesL (l.drop (k + 2)) := by
  have c := cut2_at l k h1 h2
  have hl : 0 < l.length := by
    cases l with
    | nil => unfold endAt at h2; rw [List.drop_nil] at h2; cases h2
    | cons => simp
  unfold linesL
  obtain ⟨n, hn⟩ : ∃ n, l.length = n + 1 := ⟨l.length - 1, by omega⟩
  rw [hn, linesN, c]
  simp only
  rw [lines_fuel n _ _ (by rw [List.length_drop]; omega) (Nat.le_refl _)]
theorem lines_end (l : Tx) (h : ∀ p, endAt l p = false) : linesL l = [l] := by
  unfold linesL
  cases hn : l.length with
  | zero => rfl
  | succ n => rw [linesN, cut2_none l h]
theorem endAt_drop (l : Tx) (f p : Nat) : endAt (l.drop f) p = endAt l (f + p) := by unfold endAt; rw [List.drop_drop]
theorem endAt_is (s : ByteArray) (j : Nat) (h : j + 1 < s.size) : endAt s.data.toList j = (decide ((s[j]'(by omega)) = 13) && decide ((s[j + 1]'h) = 10)) := by
  unfold endAt
  rw [drop_at s j (by omega), drop_at s (j + 1) h]
  generalize (s[j]'_) = a
  generalize (s[j + 1]'h) = b
  simp only [crlf, List.isPrefixOf, Bool.and_true]
  rw [Bool.eq_iff_iff]
  simp only [Bool.and_eq_true, beq_iff_eq, decide_eq_true_eq]
  constructor
  · rintro ⟨h1, h2⟩; exact ⟨h1.symm, h2.symm⟩
  · rintro ⟨h1, h2⟩; exact ⟨h1.symm, h2.symm⟩
theorem endAt_short (s : ByteArray) (j : Nat) (h : ¬ j + 1 < s.size) : endAt s.data.toList j = false := by
  unfold endAt
  have hl : (s.data.toList.drop j).length ≤ 1 := by
    have : s.data.toList.length = s.size := by simp
    rw [List.length_drop]; omega
  match hd : s.data.toList.drop j, hl with
  | [], _ => rfl
  | [x], _ => simp [crlf, List.isPrefixOf]
def LinesEnd (l : List Tx) (e : Ending) (w' : World) : Prop := ∃ sp c, e = .returned (.slice sp l.length c) ∧ TxsAt w' sp l
set_option maxRecDepth 20000 in
set_option maxHeartbeats 4000000 in
theorem lines_calls (s : ByteArray) (hs : s.size ≤ 4096) (w : World) : Calls Tryz.prog 33 #[.string s] w fun e w' => LinesEnd (linesL s.data.toList) e w' ∧ Below w.heap.size w w' := by
  have o1 := hide (OwnTx.empty w w.heap.size (Nat.le_refl _))
  have b1 := hide (show Below w.heap.size w (w.alloc (.cells #[] 9)) from (Below.refl _ _).alloc (Nat.le_refl _) _)
  go_enter Tryz.func33, Tryz.ntmps33
  go_wp2
  go_loopw [3, 4, 5] (fun b f i wr => ∃ (j k n : Nat) (sp : Option Addr) (c : Nat) (done : List Tx), k ≤ j ∧ k ≤ s.size ∧ j ≤ s.size + 1 ∧ n ≤ j ∧ b = .slice sp n c ∧ f = .int .i64 (k : Int) ∧ i = .int .i64 (j : Int) ∧ Hid (done.length = n) ∧ Hid (OwnTx w.heap.size wr sp c done) ∧ Hid (done ++ linesL (s.data.toList.drop k) = linesL s.data.toList) ∧ Hid (∀ p, k ≤ p → p < j → endAt s.data.toList p = false) ∧ Hid (Below w.heap.size w wr)) (fun _ _ i _ => s.size + 2 - (intOf i).toNat)
  case atStart => exact ⟨0, 0, 0, _, 0, [], by omega, by omega, by omega, by omega, rfl, rfl, rfl, hide rfl, o1, hide rfl, hide (fun p h1 h2 => by omega), b1⟩
  case round =>
    obtain ⟨j, k, n, sp, c, done, hkj, hks, hjs, hnj, rfl, rfl, rfl, HD, O, HL, HN, B⟩ := hrel
    have hw1 : IntKind.i64.wrap ((j : Int) + 1) = (j : Int) + 1 := by rw [IntKind.wrap_i64]; omega
    by_cases h : j + 1 < s.size
    · have hlt : (j : Int) + 1 < (s.size : Int) := by omega
      have hlt0 : (j : Int) < (s.size : Int) := by omega
      have hlt1 : (0 : Int) ≤ (j : Int) + 1 := by omega
      have hto : ((j : Int) + 1).toNat = j + 1 := by omega
      have hE := hide (endAt_is s j h)
      have hj' : j < s.size := by omega
      generalize hx : (s[j]'(by omega)) = x at *
      generalize hy : (s[j + 1]'h) = y at *
      have hx2 : ∀ hh, (s[j]'hh) = x := fun _ => hx
      have hy2 : ∀ hh, (s[j + 1]'hh) = y := fun _ => hy
      have hq1 : (((x.toNat : Nat) : Int) == 13) = decide (x = 13) := byte_eq x 13
      have hq2 : (((y.toNat : Nat) : Int) == 10) = decide (y = 10) := byte_eq y 10
      have NO := hide (show endAt s.data.toList j = false → ∀ p, k ≤ p → p < j + 1 → endAt s.data.toList p = false from fun e p h1 h2 => by
        by_cases hp : p < j
        · exact unhide HN p h1 hp
        · obtain rfl : p = j := by omega
          exact e)
      cases hc1 : decide (x = 13) with
      | false =>
        rw [hc1] at hq1 hE
        have N2 := hide (unhide NO (by rw [unhide hE]; rfl))
        clear hc1 NO hE
        go_wp2
        go_roundw
        case rel => exact ⟨j + 1, k, n, sp, c, done, by omega, hks, by omega, by omega, rfl, rfl, by first | rfl | (rw [hw1]; rfl), HD, O, HL, N2, B⟩
        case measure => simp [intOf]; omega
      | true =>
        rw [hc1] at hq1 hE
        cases hc2 : decide (y = 10) with
        | false =>
          rw [hc2] at hq2 hE
          have N2 := hide (unhide NO (by rw [unhide hE]; rfl))
          clear hc1 hc2 NO hE
          go_wp2
          go_roundw
          case rel => exact ⟨j + 1, k, n, sp, c, done, by omega, hks, by omega, by omega, rfl, rfl, by first | rfl | (rw [hw1]; rfl), HD, O, HL, N2, B⟩
          case measure => simp [intOf]; omega
        | true =>
          rw [hc2] at hq2 hE
          have hEt : endAt s.data.toList j = true := by rw [unhide hE]; rfl
          have HC := hide (lines_cut (s.data.toList.drop k) (j - k) (fun p hp => by rw [endAt_drop]; exact unhide HN _ (by omega) (by omega)) (by rw [endAt_drop, show k + (j - k) = j by omega]; exact hEt))
          have HL2 := hide (show (done ++ [(s.data.toList.drop k).take (j - k)]) ++ linesL (s.data.toList.drop (j + 2)) = linesL s.data.toList by
            rw [← unhide HL, unhide HC, List.drop_drop, show k + (j - k + 2) = j + 2 by omega, List.append_assoc]; rfl)
          have hex : s.extract k j = stS ((s.data.toList.drop k).take (j - k)) := by
            rw [← stS_self (s.extract k j)]; congr 1
            simp [ByteArray.data_extract]
          have hsl : ∀ W, (Instr.slice 9 (.string s) (some (.int .i64 (k : Int))) (some (.int .i64 (j : Int))) none).run Tryz.prog W = .ok (.string (stS ((s.data.toList.drop k).take (j - k)))) W := fun W => by
            rw [run_slice_string W 9 s .i64 .i64 (k : Int) (j : Int) Tryz.underlying9 (by omega) (by omega) (by omega), Int.toNat_natCast, Int.toNat_natCast, hex]
          have X1 := hide (heap_new wr (.cells #[.string (stS ((s.data.toList.drop k).take (j - k)))] 9))
          have bA := hide (show Below wr.heap.size wr (wr.alloc (.cells #[.string (stS ((s.data.toList.drop k).take (j - k)))] 9)) from (Below.refl _ _).alloc (Nat.le_refl _) _)
          have O2 := hide ((unhide O).later (unhide bA))
          have hw2 : IntKind.i64.wrap ((j : Int) + 2) = (j : Int) + 2 := by rw [IntKind.wrap_i64]; omega
          have hw3 : IntKind.i64.wrap ((j : Int) + 1 + 1) = (j : Int) + 2 := by rw [IntKind.wrap_i64]; omega
          have HDL := hide (show (done ++ [(s.data.toList.drop k).take (j - k)]).length = n + 1 by rw [List.length_append, unhide HD]; rfl)
          clear hc1 hc2 NO hE hEt HC hex HL
          generalize (s.data.toList.drop k).take (j - k) = line at *
          go_wp2_with (at_builtin; refine wpList_appendTx rfl (.tmp 25) (.tmp 30) rfl w.heap.size sp n c done rfl (unhide HD) (by exact unhide O2) wr.heap.size line rfl (by exact unhide X1) (by omega) (by exact Nat.le_trans (unhide B).size (unhide bA).size) ?_; intro sp2 c2 W2 ho2 hb2)
          go_roundw
          case rel => exact ⟨j + 2, j + 2, n + 1, sp2, c2, done ++ [line], by omega, by omega, by omega, by omega, rfl, by first | rfl | (rw [hw2]; rfl), by first | rfl | (rw [hw3]; rfl), HDL, hide ho2, HL2, hide (fun p h1 h2 => by omega), hide ((unhide B).trans (((unhide bA).mono (unhide B).size).trans hb2))⟩
          case measure => simp [intOf]; omega
    · have hlt : ¬ (j : Int) + 1 < (s.size : Int) := by omega
      have HL2 := hide (show done ++ [s.data.toList.drop k] = linesL s.data.toList by
        rw [← unhide HL, lines_end (s.data.toList.drop k) (fun p => by
          rw [endAt_drop]
          by_cases hp : k + p < j
          · exact unhide HN _ (by omega) hp
          · exact endAt_short s _ (by omega))])
      have hsl : ∀ W, (Instr.slice 9 (.string s) (some (.int .i64 (k : Int))) none none).run Tryz.prog W = .ok (.string (stS (s.data.toList.drop k))) W := fun W => by
        rw [run_slice_string_l _ _ _ Tryz.underlying9 _ _ (by omega) (by omega), Int.toNat_natCast, ext_drop']
      have X1 := hide (heap_new wr (.cells #[.string (stS (s.data.toList.drop k))] 9))
      have bA := hide (show Below wr.heap.size wr (wr.alloc (.cells #[.string (stS (s.data.toList.drop k))] 9)) from (Below.refl _ _).alloc (Nat.le_refl _) _)
      have O2 := hide ((unhide O).later (unhide bA))
      have HLL := hide (show (linesL s.data.toList).length = n + 1 by rw [← unhide HL2, List.length_append, unhide HD]; rfl)
      generalize s.data.toList.drop k = line at *
      go_wp2_with (at_builtin; refine wpList_appendTx rfl (.tmp 36) (.tmp 40) rfl w.heap.size sp n c done rfl (unhide HD) (by exact unhide O2) wr.heap.size line rfl (by exact unhide X1) (by omega) (by exact Nat.le_trans (unhide B).size (unhide bA).size) ?_; intro sp2 c2 W2 ho2 hb2)
      rw [unhide HL2] at ho2
      go_ret
      exact ⟨⟨sp2, c2, by rw [unhide HLL]; rfl, ho2.at_⟩, (unhide B).trans (((unhide bA).mono (unhide B).size).trans hb2)⟩
end Go.Proofs.YtcmiappiocfbiaaGreatDoor
end
