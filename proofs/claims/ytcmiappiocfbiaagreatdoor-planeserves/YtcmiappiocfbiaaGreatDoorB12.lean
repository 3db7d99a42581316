/- Heads: rows of fields, and the host that they tell. -/
import Derived.Test.YtcmiappiocfbiaaGreatDoorB11
import Derived.Maps.AppendAt
import Derived.Deep.RegionLaw
section
namespace Go.Proofs.YtcmiappiocfbiaaGreatDoor
open Go.ChangeShapes Go.WideShapes Go.ChangeAt Go.RowKit Go.Lib
set_option linter.unusedVariables false

theorem info_parts {P : Program} {t : TypeId} {z : Option Value} {n k : Nat} (h : (P.info? t).map (fun i => (i.zero, i.size, i.bytes)) = some (z, n, k)) : ∃ i, P.info? t = some i ∧ i.zero = z ∧ i.size = n ∧ i.bytes = k := by
  cases hi : P.info? t with
  | none => rw [hi] at h; cases h
  | some i =>
    rw [hi] at h
    simp only [Option.map_some, Option.some.injEq, Prod.mk.injEq] at h
    exact ⟨i, rfl, h.1, h.2.1, h.2.2⟩
def FdsAt (w : World) (a : Option Addr) (l : List Fd) : Prop := ∀ i (hi : i < l.length), ∃ b off, a = some ⟨b, off, none⟩ ∧ w.cell? ⟨b, off + i * 2, none⟩ = some (.string (stS l[i].name)) ∧ w.cell? ⟨b, off + i * 2 + 1, none⟩ = some (.string (stS l[i].value))
theorem FdsAt.later {w w' : World} {a : Option Addr} {l : List Fd} (h : FdsAt w a l) (hb : Below w.heap.size w w') : FdsAt w' a l :=
  fun i hi => by obtain ⟨b, off, e, h1, h2⟩ := h i hi; exact ⟨b, off, e, cell_later hb h1, cell_later hb h2⟩
def fdRow (t : Fd) : List Value := [.string (stS t.name), .string (stS t.value)]
def rowsFd (l : List Fd) : List Value := l.flatMap fdRow
theorem rowsFd_length (l : List Fd) : (rowsFd l).length = l.length * 2 := by
  induction l with
  | nil => rfl
  | cons x xs ih =>
    simp only [rowsFd, List.flatMap_cons, List.length_append, List.length_cons] at ih ⊢
    rw [ih, show (fdRow x).length = 2 from rfl]
    omega
theorem rowsFd_get : ∀ (xs : List Fd) (i f : Nat) (hi : i < xs.length) (_ : f < 2), (rowsFd xs)[i * 2 + f]? = (fdRow xs[i])[f]?
  | [], i, _, hi, _ => by simp at hi
  | x :: xs, 0, f, _, hf => by
    simp only [rowsFd, List.flatMap_cons, Nat.zero_mul, Nat.zero_add, List.getElem_cons_zero]
    rw [List.getElem?_append_left (show f < (fdRow x).length from hf)]
  | x :: xs, i + 1, f, hi, hf => by
    have ih := rowsFd_get xs i f (by simpa using hi) hf
    simp only [rowsFd, List.flatMap_cons, List.getElem_cons_succ] at ih ⊢
    rw [List.getElem?_append_right (by rw [show (fdRow x).length = 2 from rfl]; omega)]
    have e4 : (i + 1) * 2 + f - (fdRow x).length = i * 2 + f := by rw [show (fdRow x).length = 2 from rfl]; omega
    rw [e4]
    exact ih
theorem fd_oneCell (l : List Fd) : ∀ u ∈ rowsFd l, u.oneCell' = true := by
  intro u hu
  obtain ⟨t, _, ht⟩ := List.mem_flatMap.1 hu
  simp only [fdRow, List.mem_cons, List.not_mem_nil, or_false] at ht
  rcases ht with rfl | rfl <;> rfl
theorem infoFd : (Tryz.prog.info? 86).map (fun i => (i.zero, i.size, i.bytes)) = some (some (.agg #[.string ByteArray.empty, .string ByteArray.empty]), 2, 32) := by kernel_rfl
/-- Targets of one's own. -/
def OwnFd (base : Nat) (w : World) (sp : Option Addr) (c : Nat) (l : List Fd) : Prop := w.ownsRow base 86 2 (.slice sp l.length c) l.length (rowsFd l)
theorem OwnFd.ofNil (base : Nat) (w : World) : OwnFd base w none 0 [] := w.ownsRow_nil base 86 2
theorem OwnFd.at_ {base : Nat} {w : World} {sp : Option Addr} {c : Nat} {l : List Fd} (h : OwnFd base w sp c l) : FdsAt w sp l := by
  refine fun i hi => ?_
  rcases h.2 with ⟨hv, h0⟩ | ⟨g, cap, cur, hv, hb, hg, hle, hmx, hsz, ht⟩
  · omega
  · simp only [Value.slice.injEq] at hv
    obtain ⟨rfl, _, rfl⟩ := hv
    refine ⟨g, 0, rfl, ?_, ?_⟩
    · have hk := rowsFd_get l i 0 hi (by omega)
      rw [Nat.zero_add, cell_of_row w g _ cur _ _ hg, ← Array.getElem?_toList]
      have hj : i * 2 + 0 < l.length * 2 := by omega
      rw [← ht, List.getElem?_take, if_pos hj] at hk
      exact hk
    · have hk := rowsFd_get l i 1 hi (by omega)
      rw [Nat.zero_add, cell_of_row w g _ cur _ _ hg, ← Array.getElem?_toList]
      have hj : i * 2 + 1 < l.length * 2 := by omega
      rw [← ht, List.getElem?_take, if_pos hj] at hk
      exact hk
theorem run_appendFd {base : Nat} {w : World} {sp : Option Addr} {c : Nat} {l : List Fd} (hown : OwnFd base w sp c l) (B : Nat) (ys : List Fd) (m : Nat) (hm : ys.length = m) (hB : w.heap[B]? = some (.cells (rowsFd ys).toArray 86 (0, 0))) (hn : (l.length + m) * 32 ≤ 140737488355328) (hbase : base ≤ w.heap.size) (ty : TypeId) :
    ∃ sp' c' w', (Builtin.append_ #[56, 56] ty #[.slice sp l.length c, .slice (some ⟨B, 0, none⟩) m m]).run Tryz.prog w = .ok (.slice sp' (l.length + m) c') w' ∧ OwnFd base w' sp' c' (l ++ ys) ∧ Below base w w' := by
  obtain ⟨i0, hi, hz0, hz1, hz2⟩ := info_parts infoFd
  obtain ⟨v', w', hrun, h1, h2, _, h5⟩ := run_append_own_at (P := Tryz.prog) w base 56 ty 86 i0 _ 2 32 Tryz.underlying56 hi hz0 hz1 hz2 rfl (by omega) _ _ _ hown ⟨B, 0, none⟩ m m (rowsFd ys) (by rw [rowsFd_length, hm])
    (fun j u hu => by have := World.news_of_block hB j u; simp only at this; exact this hu) (fd_oneCell ys) (by simp only [maxLen]; omega) (by omega) hbase
  have hv : ∃ sp' c', v' = .slice sp' (l.length + m) c' := by
    rcases h1.2 with ⟨hv, h0⟩ | ⟨g, cap, cur, hv, _⟩
    · exact ⟨none, 0, by rw [hv, h0]⟩
    · exact ⟨_, _, hv⟩
  obtain ⟨sp', c', rfl⟩ := hv
  refine ⟨sp', c', w', hrun, ?_, (Below.refl base w).grown h2 hbase (fun g hg => (hown.lt g hg).1)⟩
  unfold OwnFd
  rw [List.length_append, hm, show rowsFd (l ++ ys) = rowsFd l ++ rowsFd ys from by simp [rowsFd]]
  exact h1
theorem wpList_appendFd {w : World} {ops : Array Oper} {rest : List Oper} {o : Oper} {a : Act} {Q : Exit → Act → World → Prop} (hgd : o.guard = none) (s x : Operand)
    (ho : o.op = .call { callee := .builtin .append, args := #[s, x], argTypes := #[56, 56] })
    (base : Nat) (sp : Option Addr) (n c : Nat) (l : List Fd) (hs : a.eval s = .slice sp n c) (hn : l.length = n) (hown : OwnFd base w sp c l) (B : Nat) (ys : List Fd) (m : Nat) (hm : ys.length = m) (hx : a.eval x = .slice (some ⟨B, 0, none⟩) m m)
    (hB : w.heap[B]? = some (.cells (rowsFd ys).toArray 86 (0, 0))) (hsz : (n + m) * 32 ≤ 140737488355328) (hbase : base ≤ w.heap.size)
    (hk : ∀ sp' c' w', OwnFd base w' sp' c' (l ++ ys) → Below base w w' → wpList Tryz.prog ops Q rest (a.put o.dst (.slice sp' (n + m) c')) w') :
    wpList Tryz.prog ops Q (o :: rest) a w := by
  subst hn
  refine wpList_plain hgd fun K hK => ?_
  obtain ⟨sp', c', w', hrun, h1, h2⟩ := run_appendFd hown B ys m hm hB hsz hbase o.type
  unfold Oper.wp
  simp [execOp, ho, resolve, invoke, builtin, hs, hx, hrun, Result.andThen]
  exact hK _ _ (hk sp' c' w' h1 h2)
theorem OwnFd.below {base : Nat} {w w' : World} {sp : Option Addr} {c : Nat} {l : List Fd} (h : OwnFd base w sp c l) (hb : Below w.heap.size w w') : OwnFd base w' sp c l := by
  refine ⟨h.1, ?_⟩
  rcases h.2 with hv | ⟨g, cap, cur, hv, hbg, hg, r⟩
  · exact .inl hv
  · exact .inr ⟨g, cap, cur, hv, hbg, (hb.block g (Array.getElem?_eq_some_iff.1 hg).1).trans hg, r⟩

/-- What the loop over the fields has seen. -/
def seenV (l : List Fd) : Tx := match (hostsOf l).getLast? with | some f => f.value | none => []
def hostsOk (l : List Fd) : Bool := (hostL (seenV l)).isSome && ((hostsOf l).length == 1)
def hostOfV (l : List Fd) : Value := .tuple #[.string (stS ((hostL (seenV l)).getD [])), .bool (hostsOk l)]
theorem hostOf_yes {l : List Fd} (h : hostsOk l = true) : hostOfL l = some ((hostL (seenV l)).getD []) := by
  unfold hostsOk at h
  rw [Bool.and_eq_true, beq_iff_eq] at h
  unfold hostOfL
  obtain ⟨f, hf⟩ := List.length_eq_one_iff.1 h.2
  rw [hf]
  simp only
  have hs : seenV l = f.value := by unfold seenV; rw [hf]; rfl
  rw [hs] at h ⊢
  obtain ⟨x, hx⟩ := Option.isSome_iff_exists.1 h.1
  rw [hx]; rfl
theorem hostOf_no {l : List Fd} (h : hostsOk l = false) : hostOfL l = none := by
  unfold hostOfL
  cases hl : hostsOf l with
  | nil => rfl
  | cons f t =>
    cases t with
    | cons g u => rfl
    | nil =>
      simp only
      have hs : seenV l = f.value := by unfold seenV; rw [hl]; rfl
      unfold hostsOk at h
      rw [hl, hs] at h
      cases hx : hostL f.value with
      | none => rfl
      | some x => rw [hx] at h; simp at h
theorem seen_step (l : List Fd) (j : Nat) (hj : j < l.length) : hostsOf (l.take (j + 1)) = if l[j].name == hostName then hostsOf (l.take j) ++ [l[j]] else hostsOf (l.take j) := by
  unfold hostsOf
  rw [List.take_add_one, List.getElem?_eq_getElem hj, Option.toList_some, List.filter_append, List.filter_cons, List.filter_nil]
  split <;> simp_all
theorem host_eq (t : ByteArray) : (t.toList == [104, 111, 115, 116]) = (t.data.toList == hostName) := by rw [ByteArray.toList_eq]; rfl
set_option maxRecDepth 20000 in
set_option maxHeartbeats 8000000 in
theorem hostOf_calls (a : Option Addr) (c : Nat) (l : List Fd) (n : Nat) (w : World) (hn : l.length = n) (hm : n ≤ maxLen) (hz : ∀ f ∈ l, f.name.length ≤ maxLen ∧ f.value.length ≤ maxLen) (h : FdsAt w a l) :
    Calls Tryz.prog 69 #[.slice a n c] w fun e w' => e = .returned (hostOfV l) ∧ Below w.heap.size w w' := by
  have H := hide h
  have HZ := hide hz
  have HN := hide hn
  clear h hz hn
  simp only [maxLen] at hm
  go_enter Tryz.func69, Tryz.ntmps69
  go_wp2
  go_loopw [4, 5, 12] (fun v k i wr => ∃ j : Nat, j ≤ n ∧ v = .string (stS (seenV (l.take j))) ∧ k = .int .i64 ((hostsOf (l.take j)).length : Int) ∧ i = .int .i64 (j : Int) ∧ Hid (Below w.heap.size w wr)) (fun _ _ i _ => n - (intOf i).toNat)
  case atStart => exact ⟨0, by omega, rfl, rfl, rfl, hide (Below.refl _ _)⟩
  case round =>
    obtain ⟨j, hj, rfl, rfl, rfl, B⟩ := hrel
    have hhl : (hostsOf (l.take j)).length ≤ j := Nat.le_trans (List.length_filter_le _ _) (by rw [List.length_take]; omega)
    by_cases hjn : j < n
    · have hjl : j < l.length := by rw [unhide HN]; exact hjn
      obtain ⟨b, off, rfl, q0, q1⟩ := unhide H j hjl
      have p0 := cell_later (unhide B) q0
      have p1 := cell_later (unhide B) q1
      have hsz := unhide HZ _ (List.getElem_mem hjl)
      have ST := seen_step l j hjl
      have E1 := hide (show hostsOf (l.take (j + 1)) = if l[j].name == hostName then hostsOf (l.take j) ++ [l[j]] else hostsOf (l.take j) from ST)
      clear ST q0 q1
      generalize l[j] = f at *
      obtain ⟨fn, fv⟩ := f
      simp only at p0 p1 hsz E1
      have he := host_eq (stS fn)
      rw [stS_list] at he
      have hsn : (stS fn).size ≤ 9223372036854775807 := by rw [stS_size]; simp [maxLen] at hsz; omega
      have y0 : (0 : Int) ≤ (j : Int) := by omega
      have y1 : (j : Int) < (n : Int) := by omega
      have hw : IntKind.i64.wrap ((j : Int) + 1) = ((j + 1 : Nat) : Int) := by rw [IntKind.wrap_i64]; omega
      have B3 := hide ((unhide B).alloc (unhide B).size (.cells #[.string (stS fn), .string (stS fv)] 86))
      have e0 := box_cell (heap_new wr (.cells #[.string (stS fn), .string (stS fv)] 86)) 0 (.string (stS fn)) rfl
      have e1 := box_cell (heap_new wr (.cells #[.string (stS fn), .string (stS fv)] 86)) 1 (.string (stS fv)) rfl
      generalize hsv : stS (seenV (l.take j)) = sv at *
      generalize hk : (hostsOf (l.take j)).length = k at *
      have hwk : IntKind.i64.wrap ((k : Int) + 1) = (k : Int) + 1 := by rw [IntKind.wrap_i64]; omega
      cases hh : (fn == hostName) with
      | true =>
        rw [hh] at he
        have E2 := hide (show hostsOf (l.take (j + 1)) = hostsOf (l.take j) ++ [⟨fn, fv⟩] by rw [unhide E1, hh]; rfl)
        have E3 := hide (show seenV (l.take (j + 1)) = fv by unfold seenV; rw [unhide E2]; simp)
        have E4 := hide (show (hostsOf (l.take (j + 1))).length = k + 1 by rw [unhide E2, List.length_append, hk]; rfl)
        go_wp2
        go_roundw
        case rel => exact ⟨j + 1, by omega, by rw [unhide E3], by rw [unhide E4]; first | rfl | (rw [hwk]; rfl), by first | rfl | (rw [hw]), B3⟩
        case measure => simp [intOf]; omega
      | false =>
        rw [hh] at he
        have E2 := hide (show hostsOf (l.take (j + 1)) = hostsOf (l.take j) by rw [unhide E1, hh]; rfl)
        have E3 := hide (show stS (seenV (l.take (j + 1))) = sv by rw [← hsv]; unfold seenV; rw [unhide E2])
        have E4 := hide (show (hostsOf (l.take (j + 1))).length = k by rw [unhide E2, hk])
        go_wp2
        go_roundw
        case rel => exact ⟨j + 1, by omega, by rw [unhide E3], by rw [unhide E4], by first | rfl | (rw [hw]), B3⟩
        case measure => simp [intOf]; omega
    · have hjn2 : j = n := by omega
      have y1 : ¬ (j : Int) < (n : Int) := by omega
      have hlt : l.take j = l := by rw [List.take_of_length_le]; rw [unhide HN]; omega
      rw [hlt] at hhl ⊢
      have hsl : (seenV l).length ≤ maxLen := by
        unfold seenV
        cases hg : (hostsOf l).getLast? with
        | none => simp
        | some f =>
          have := List.mem_of_getLast? hg
          exact (unhide HZ f (List.mem_filter.1 this).1).2
      have HC := hide (fun W => host_calls (stS (seenV l)) (by rw [stS_size]; exact hsl) W)
      rw [stS_list] at HC
      have EV := hide (show hostOfV l = .tuple #[.string (stS ((hostL (seenV l)).getD [])), .bool ((hostL (seenV l)).isSome && ((hostsOf l).length == 1))] from rfl)
      have hk1 : (((hostsOf l).length : Int) == 1) = ((hostsOf l).length == 1) := by rw [Bool.eq_iff_iff]; simp; omega
      generalize (hostsOf l).length = k at *
      generalize seenV l = v at *
      generalize stS v = sv at *
      cases hx : hostL v with
      | none =>
        rw [show hostV v = .tuple #[.string ⟨#[]⟩, .bool false] by unfold hostV; rw [hx]] at HC
        have EV2 := hide (show hostOfV l = .tuple #[.string ⟨#[]⟩, .bool false] by rw [unhide EV, hx]; rfl)
        go_wp2_with (go_at_call 83; refine (unhide HC _).mono ?_; rintro e W ⟨rfl, hb⟩; have HB := chain B hb)
        go_ret2
        exact ⟨by rw [unhide EV2]; rfl, unhide HB⟩
      | some x =>
        rw [show hostV v = .tuple #[.string (stS x), .bool true] by unfold hostV; rw [hx]] at HC
        have EV2 := hide (show hostOfV l = .tuple #[.string (stS x), .bool (k == 1)] by rw [unhide EV, hx]; rfl)
        generalize (k == 1) = kb at *
        go_wp2_with (go_at_call 83; refine (unhide HC _).mono ?_; rintro e W ⟨rfl, hb⟩; have HB := chain B hb)
        go_ret2
        exact ⟨by rw [unhide EV2]; rfl, unhide HB⟩
end Go.Proofs.YtcmiappiocfbiaaGreatDoor
end
/- Heads: a head's text, line by line. -/
section
namespace Go.Proofs.YtcmiappiocfbiaaGreatDoor
open Go.ChangeShapes Go.WideShapes Go.ChangeAt Go.RowKit Go.Lib
set_option linter.unusedVariables false

/-- As Q; a goto to label 0: J, to label 1: J1; to any other one: no way out. -/
def Exit2 (J J1 : Act → World → Prop) (Q : Exit → Act → World → Prop) : Exit → Act → World → Prop
  | .goto l, a, w => (l = 0 ∧ J a w) ∨ (l = 1 ∧ J1 a w)
  | e, a, w => Q e a w
section
variable {P : Program} {a : Act} {w : World} {Q : Exit → Act → World → Prop}
/-- A scope in which the run jumps back to label 0 and, in the end, on to label 1. -/
theorem wp_scope_two {c R E : Code} (J : Act → World → Prop) (μ : Act → World → Nat) (h0 : findLabel c 0 = some (Code.seq .skip R)) (h1 : findLabel c 1 = some (Code.seq .skip E))
    (pass : ∀ a w, J a w → R.wp P (Exit2 (fun a' w' => J a' w' ∧ μ a' w' < μ a w) (fun a' w' => E.wp P (Exit.noGoto Q) a' w') Q) a w)
    (first : (∀ a w, J a w → R.wp P (Exit2 J (fun a' w' => E.wp P (Exit.noGoto Q) a' w') Q) a w) → c.wp P (Exit2 J (fun a' w' => E.wp P (Exit.noGoto Q) a' w') Q) a w) : (Code.scope c).wp P Q a w := by
  intro b k cs
  have g0 : gotoIn 0 (.inScope c :: k) = some (.code (Code.seq .skip R) :: .inScope c :: k) := by simp [gotoIn, h0]
  have g1 : gotoIn 1 (.inScope c :: k) = some (.code (Code.seq .skip E) :: .inScope c :: k) := by simp [gotoIn, h1]
  have out : ∀ a w, E.wp P (Exit.noGoto Q) a w → ∃ e a' w', Q e a' w' ∧ Arrives P (lone (b.at a (.code (Code.seq .skip E) :: .inScope c :: k)) cs w) b k cs e a' w' := by
    intro a w h
    obtain ⟨e, a1, w1, hq, har⟩ := (wp_seq (wp_skip h) : (Code.seq .skip E).wp P (Exit.noGoto Q) a w) b (.inScope c :: k) cs
    cases e with
    | normal => exact ⟨.normal, a1, w1, hq, Steps.trans har (.one step_inScope)⟩
    | exit id => exact ⟨.exit id, a1, w1, hq, fun k' hk => har k' (by simp [exitTo, hk])⟩
    | goto l => exact hq.elim
    | ret => exact ⟨_, a1, w1, hq, har⟩
    | panic ch => exact ⟨_, a1, w1, hq, har⟩
    | outgrown => exact ⟨_, a1, w1, hq, har⟩
  have back : ∀ n a w, μ a w = n → J a w → ∃ e a' w', Q e a' w' ∧ Arrives P (lone (b.at a (.code (Code.seq .skip R) :: .inScope c :: k)) cs w) b k cs e a' w' := by
    intro n
    induction n using Nat.strongRecOn with
    | _ n ih =>
      intro a w hn hJ
      obtain ⟨e, a1, w1, hq, har⟩ := (wp_seq (wp_skip (pass a w hJ)) : (Code.seq .skip R).wp P _ a w) b (.inScope c :: k) cs
      cases e with
      | normal => exact ⟨.normal, a1, w1, hq, Steps.trans har (.one step_inScope)⟩
      | exit id => exact ⟨.exit id, a1, w1, hq, fun k' hk => har k' (by simp [exitTo, hk])⟩
      | goto l =>
        rcases hq with ⟨rfl, hJ', hlt⟩ | ⟨rfl, hE⟩
        · obtain ⟨e2, a2, w2, hq2, har2⟩ := ih _ (by omega) a1 w1 rfl hJ'
          exact ⟨e2, a2, w2, hq2, .of_steps (har _ g0) har2⟩
        · obtain ⟨e2, a2, w2, hq2, har2⟩ := out a1 w1 hE
          exact ⟨e2, a2, w2, hq2, .of_steps (har _ g1) har2⟩
      | ret => exact ⟨_, a1, w1, hq, har⟩
      | panic ch => exact ⟨_, a1, w1, hq, har⟩
      | outgrown => exact ⟨_, a1, w1, hq, har⟩
  obtain ⟨e, a1, w1, hq, har⟩ := first (fun a w hJ => wp_mono (pass a w hJ) fun e a w h => by
    cases e with
    | goto l => exact h.imp (fun h => ⟨h.1, h.2.1⟩) id
    | _ => exact h) b (.inScope c :: k) cs
  cases e with
  | normal => exact ⟨.normal, a1, w1, hq, .head step_scope (Steps.trans har (.one step_inScope))⟩
  | exit id => exact ⟨.exit id, a1, w1, hq, fun k' hk => .head step_scope (har k' (by simp [exitTo, hk]))⟩
  | goto l =>
    rcases hq with ⟨rfl, hJ'⟩ | ⟨rfl, hE⟩
    · obtain ⟨e2, a2, w2, hq2, har2⟩ := back _ a1 w1 rfl hJ'
      exact ⟨e2, a2, w2, hq2, .of_steps (.head step_scope (har _ g0)) har2⟩
    · obtain ⟨e2, a2, w2, hq2, har2⟩ := out a1 w1 hE
      exact ⟨e2, a2, w2, hq2, .of_steps (.head step_scope (har _ g1)) har2⟩
  | ret => exact ⟨_, a1, w1, hq, .of_steps (.one step_scope) har⟩
  | panic ch => exact ⟨_, a1, w1, hq, .of_steps (.one step_scope) har⟩
  | outgrown => exact ⟨_, a1, w1, hq, .of_steps (.one step_scope) har⟩
end
/-- What is left to be told behind some fields. -/
def restL (m p q h : Tx) (fs : List Fd) (k : Nat) (rest : Tx) : Option Hd := match fieldsL k rest with
  | none => none
  | some gs => match hostOfL (fs ++ gs) with
    | none => none
    | some x => some ⟨m, p, q, if h = [] then x else h, fs ++ gs⟩
def zero5 : Array Value := #[.string ⟨#[]⟩, .string ⟨#[]⟩, .string ⟨#[]⟩, .string ⟨#[]⟩, .slice none 0 0]
theorem hostL_len {s h : Tx} (hh : hostL s = some h) : h.length ≤ 64 := by
  unfold hostL at hh
  split at hh
  · cases hh
  · rename_i hc
    cases hh
    unfold lowL Lib.toLowerA
    rw [List.length_map]
    have hi : isHostL (cutL [58] s).1 = true := by
      cases he : isHostL (cutL [58] s).1 with
      | true => rfl
      | false => rw [he] at hc; simp at hc
    unfold isHostL at hi
    rw [Bool.and_eq_true, decide_eq_true_eq] at hi
    exact hi.1
theorem targetL_len {t p q h : Tx} (ht : targetL t = some (p, q, h)) : h.length ≤ 64 := by
  cases hq : isQueryL (behindL [63] t) with
  | false => rw [targetL_0 hq] at ht; cases ht
  | true =>
    cases hp : httpL.isPrefixOf (cutL [63] t).1 with
    | false =>
      rw [targetL_1 hq hp] at ht
      split at ht
      · cases ht; simp
      · cases ht
    | true =>
      rw [targetL_2 hq hp] at ht
      cases hx : hostL (cutL [47] ((cutL [63] t).1.drop 7)).1 with
      | none => rw [hx] at ht; cases ht
      | some x =>
        rw [hx] at ht
        simp only at ht
        generalize isPathL (pathOf ((cutL [63] t).1.drop 7)) = b at ht
        cases b with
        | true => simp only [if_true, Option.some.injEq, Prod.mk.injEq] at ht; rw [← ht.2.2]; exact hostL_len hx
        | false => simp at ht
theorem requestL_len {t m p q h : Tx} (ht : requestL t = some (m, p, q, h)) : h.length ≤ 64 := by
  unfold requestL at ht
  split at ht
  · cases ht
  · rename_i a b c hx
    split at ht
    · cases ht; exact targetL_len hx
    · cases ht
theorem RC.other {B : Nat} {w : World} {g : Nat} {T : TypeId} {cs : Array Value} {W : World} (h : RC B w g T cs W) (H i : Nat) (v : Value) (hne : g ≠ H) (hB : B ≤ H) : RC B w g T cs (W.setCell ⟨H, i, none⟩ v) :=
  ⟨(heap_setCell_other W ⟨H, i, none⟩ g v hne).trans h.row, h.low, h.base, h.bel.setCell (p := ⟨H, i, none⟩) hB v⟩
/-- Where the walk from line to line stands. -/
structure RdJ (t : Tx) (w : World) (H F base : Nat) (rest : Tx) (ok : Bool) (W : World) : Prop where
  res : RC w.heap.size w w.heap.size 58 zero5 W
  hlo : w.heap.size < H
  flo : H < F
  blo : F < base
  bhi : base ≤ W.heap.size
  frow : ∃ x y, W.heap[F]? = some (.cells #[.string x, .string y] 86 (0, 0))
  hrow : ∃ m p q h sp c fs k, W.heap[H]? = some (.cells #[.string (stS m), .string (stS p), .string (stS q), .string (stS h), .slice sp (List.length fs) c] 58 (0, 0)) ∧ OwnFd base W sp c fs ∧ (ok = true → h.length ≤ 64 ∧ ∀ f ∈ fs, f.name.length ≤ 4096 ∧ f.value.length ≤ 4096) ∧ fs.length + rest.length ≤ 4096 ∧ rest.length ≤ k ∧ readL t = if ok then restL m p q h fs k rest else none
def RdA (s : ByteArray) (w : World) (H F : Nat) (rest : Tx) (ok : Bool) (a : Act) : Prop := ∃ u1 u4 u6 u10 u11 u12 u13 u14 u15 u16 u17 u18 u19 u20 u21 u22 u23 u24 u25 u26 u27 u28 u29 u30 u31 u32 u33 u34 u35 u36 u37 u38 u39 u40 u41 u42 u43 u44 u45 u46 u47 u48 u49 u50 u51 u52 u53 u54 u55 u56 : Value, a = { tmps := #[.string s, u1, .pointer (some ⟨w.heap.size, 0, none⟩), .bool false, u4, .string (stS rest), u6, .pointer (some ⟨H, 0, none⟩), .bool ok, .pointer (some ⟨F, 0, none⟩), u10, u11, u12, u13, u14, u15, u16, u17, u18, u19, u20, u21, u22, u23, u24, u25, u26, u27, u28, u29, u30, u31, u32, u33, u34, u35, u36, u37, u38, u39, u40, u41, u42, u43, u44, u45, u46, u47, u48, u49, u50, u51, u52, u53, u54, u55, u56], defers := [] }
def RdM (a : Act) (_ : World) : Nat := match a.tmps.getD 5 undef with | Value.string x => x.size | _ => 0
end Go.Proofs.YtcmiappiocfbiaaGreatDoor
end
