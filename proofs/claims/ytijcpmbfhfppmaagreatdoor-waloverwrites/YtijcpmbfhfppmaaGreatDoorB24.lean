/- Logs: SetHard. -/
import Derived.Test.YtijcpmbfhfppmaaGreatDoorB23
import Derived.Test.YtijcpmbfhfppmaaGreatDoorB01
section
namespace Go.Proofs.YtijcpmbfhfppmaaGreatDoor
open Go.ChangeShapes Go.WideShapes Go.ChangeAt Go.RowKit
set_option linter.unusedVariables false

/-- A hard state is kept: the error, the disk, the content, the file's number. -/
def wHard (room n : Nat) (c : Wc) (t v : Nat) (ss : Ds) : Nat × Ds × Wc × Nat :=
  if t = c.ht ∧ v = c.hv then (0, ss, c, n)
  else if (wAddR room n c (hardB t v) ss).1 ≠ 0 then ((wAddR room n c (hardB t v) ss).1, (wAddR room n c (hardB t v) ss).2.1, c, (wAddR room n c (hardB t v) ss).2.2)
  else (0, (wAddR room n c (hardB t v) ss).2.1, { c with ht := t, hv := v }, (wAddR room n c (hardB t v) ss).2.2)
section
variable {Av : Nat → Prop} {base : Nat} {w w' : World} {L d M room N N' : Nat} {ss ss' : Ds} {c : Wc} {n : Nat} {ep : Option Addr} {ec : Nat} {hs : List (Option Addr × Nat)}
/-- How a method of a log ends. -/
def LgEnd (Av : Nat → Prop) (base L d M room N : Nat) (w : World) (r : Nat × Ds × Wc × Nat) (e : Ending) (w' : World) : Prop :=
  e = .returned (.int .i64 (r.1 : Int)) ∧ (∃ ep ec hs, WAt Av base w' L d M room N r.2.1 r.2.2.1 r.2.2.2 ep ec hs) ∧ Asd Av base w w'
theorem set2 {w : World} {g : Nat} {o a b c d e f x y : Value} {T : TypeId} (h : w.heap[g]? = some (.cells #[o, a, b, c, d, e, f] T (0, 0))) : ((w.setCell ⟨g, 3, none⟩ x).setCell ⟨g, 4, none⟩ y).heap[g]? = some (.cells #[o, a, b, x, y, e, f] T (0, 0)) ∧ w.grownBy ((w.setCell ⟨g, 3, none⟩ x).setCell ⟨g, 4, none⟩ y) (some g) := by
  have h1 := heap_setCell_same w g 3 #[o, a, b, c, d, e, f] T x h
  have h2 := heap_setCell_same _ g 4 _ T y h1
  exact ⟨h2, (grown_set w g 3 x).trans (grown_set _ g 4 y)⟩
set_option maxRecDepth 20000 in
set_option maxHeartbeats 16000000 in
theorem setHard_no (z : WAt Av base w L d M room N ss c n ep ec hs) (t v : Int) (h : ¬ (0 ≤ t ∧ t ≤ 1099511627776 ∧ 0 ≤ v ∧ v ≤ 9)) :
    Calls Tryz.prog 28 #[.pointer (some ⟨L, 0, none⟩), .agg #[.int .i64 t, .int .i64 v]] w (LgEnd Av base L d M room N w (2, ss, c, n)) := by
  have b1 : Below w.heap.size w (w.alloc (.cells #[.int .i64 t, .int .i64 v] 29)) := (Below.refl _ _).alloc (Nat.le_refl _) _
  have X1 := heap_new w (.cells #[.int .i64 t, .int .i64 v] 29)
  have HC := hide (fun W => hardRecord_no t v W h)
  have x0 := box_cell X1 0 _ rfl
  have x1 := box_cell X1 1 _ rfl
  have B1 := hide b1
  have Z := hide z
  clear z b1 X1 h
  go_enter Tryz.func28, Tryz.ntmps28
  go_wp2_with fail
  clear x0 x1
  generalize w.alloc _ = w1 at *
  go_at_call 69
  refine (unhide HC _).mono ?_
  rintro e V1 ⟨rfl, v1⟩
  have U1 := (unhide B1).trans (v1.mono (unhide B1).size)
  have FE := hide (show LgEnd Av base L d M room N w (2, ss, c, n) (.returned (.int .i64 2)) V1 from ⟨rfl, ⟨ep, ec, hs, (unhide Z).later U1⟩, ((unhide Z).asdB U1).sub (fun g hg => .inl hg)⟩)
  clear v1 U1
  go_wp2
  go_ret
  exact unhide FE
set_option maxRecDepth 20000 in
set_option maxHeartbeats 16000000 in
theorem setHard_yes (z : WAt Av base w L d M room N ss c n ep ec hs) (hN : N + 2 ≤ 1000000) (t v : Nat) (ht : t ≤ 1099511627776) (hv : v ≤ 9) :
    Calls Tryz.prog 28 #[.pointer (some ⟨L, 0, none⟩), .agg #[.int .i64 (t : Int), .int .i64 (v : Int)]] w (LgEnd Av base L d M room (N + 2) w (wHard room n c t v ss)) := by
  have WH := hide (show wHard room n c t v ss = (if t = c.ht ∧ v = c.hv then (0, ss, c, n)
    else if (wAddR room n c (hardB t v) ss).1 ≠ 0 then ((wAddR room n c (hardB t v) ss).1, (wAddR room n c (hardB t v) ss).2.1, c, (wAddR room n c (hardB t v) ss).2.2)
    else (0, (wAddR room n c (hardB t v) ss).2.1, { c with ht := t, hv := v }, (wAddR room n c (hardB t v) ss).2.2)) from rfl)
  generalize wHard room n c t v ss = wh at *
  have b1 : Below w.heap.size w (w.alloc (.cells #[.int .i64 (t : Int), .int .i64 (v : Int)] 29)) := (Below.refl _ _).alloc (Nat.le_refl _) _
  have X1 := hide (heap_new w (.cells #[.int .i64 (t : Int), .int .i64 (v : Int)] 29))
  have HC := hide (fun W => hardRecord_yes t v W ht hv)
  have HL := hide (hardB_len t v ht hv)
  have x0 := box_cell (unhide X1) 0 _ rfl
  have x1 := box_cell (unhide X1) 1 _ rfl
  have B1 := hide b1
  have Z := hide z
  have TV := hide (show t ≤ 1099511627776 ∧ v ≤ 9 from ⟨ht, hv⟩)
  clear z b1 ht hv
  go_enter Tryz.func28, Tryz.ntmps28
  go_wp2_with fail
  clear x0 x1
  generalize w.alloc _ = w1 at *
  go_at_call 69
  refine (unhide HC _).mono ?_
  rintro e V1 ⟨g1, m1, rfl, hm1, o1, v1⟩
  have U1 := hide ((unhide B1).trans (v1.mono (unhide B1).size))
  have X2 := hide (later_block v1 (unhide X1))
  have Z1 := hide ((unhide Z).more (unhide U1))
  have SZ := hide (unhide B1).size
  have O1 := hide o1
  clear v1 o1 HC
  have x0 := box_cell (unhide X2) 0 _ rfl
  have x1 := box_cell (unhide X2) 1 _ rfl
  have R1 := hide (unhide Z1).lg.row
  have l3 : V1.cell? ⟨L, 3, none⟩ = some (.int .i64 (c.ht : Int)) := box_cell (unhide R1) 3 _ rfl
  have l4 : V1.cell? ⟨L, 4, none⟩ = some (.int .i64 (c.hv : Int)) := box_cell (unhide R1) 4 _ rfl
  have BD := hide (show ∀ k, Below V1.heap.size V1 (V1.drewN k) from fun k => ⟨rfl, rfl, rfl, Nat.le_refl _, fun _ _ => rfl⟩)
  by_cases h1 : t = c.ht ∧ v = c.hv
  · have FE := hide (show ∀ k, LgEnd Av base L d M room (N + 2) w wh (.returned (.int .i64 0)) (V1.drewN k) from fun k => by
      have u := (unhide U1).trans ((unhide BD k).mono (unhide U1).size)
      rw [unhide WH, if_pos h1]
      exact ⟨rfl, ⟨ep, ec, hs, ((unhide Z).later u).monoN (by omega) hN⟩, ((unhide Z).asdB u).sub (fun g hg => .inl hg)⟩)
    obtain ⟨rfl, rfl⟩ := h1
    go_wp2_with fail
    go_quiet (fail)
    go_wp2
    go_ret
    exact unhide FE _
  · rw [if_neg h1] at WH
    have h2 : (((t : Int) == (c.ht : Int)) = true ∧ ((v : Int) == (c.hv : Int)) = false ∧ ¬ (v : Int) = (c.hv : Int)) ∨ (((t : Int) == (c.ht : Int)) = false ∧ ¬ (t : Int) = (c.ht : Int)) := by
      by_cases h2 : t = c.ht
      · left
        have h3 : v ≠ c.hv := fun h => h1 ⟨h2, h⟩
        exact ⟨by simp [h2], by simp; omega, by omega⟩
      · right
        exact ⟨by simp; omega, by omega⟩
    clear h1
    rcases h2 with ⟨k1, k2, k3⟩ | ⟨k1, k2⟩
    focus
      go_wp2_with fail
      go_quiet (fail)
    rotate_left
    focus
      go_wp2_with fail
      go_quiet (fail)
    all_goals
      have Z2 := hide ((unhide Z1).later (unhide BD nq))
      have O2 := hide ((unhide O1).later (unhide BD nq))
      have X3 := hide (later_block (unhide BD nq) (unhide X2))
      have A2 := hide (((unhide Z).asdB ((unhide U1).trans ((unhide BD nq).mono (unhide U1).size))).sub (Bv := Av) (fun g hg => .inl hg))
      have S1 := hide (show V1.heap.size = (V1.drewN nq).heap.size from rfl)
      clear k1 k2
      try clear k3
      clear l3 l4 x0 x1 R1 BD X2 X1
      generalize V1.drewN nq = V2 at *
      have AC := hide (addRecords_calls (unhide Z2) hN (some ⟨g1, 0, none⟩) m1 m1 (hardB t v) (unhide hm1) (Nat.le_refl _) (unhide O2).bytes (fun h => by cases h) (fun g off e h0 => .inr (.inr ⟨by
        have h1 := ((unhide O2).blk_lt g (by rw [e]; rfl)).1
        have h2 := unhide SZ
        omega, by rw [unhide S1]; exact ((unhide O2).blk_lt g (by rw [e]; rfl)).2⟩)) (by have := unhide hm1; have := unhide HL; omega))
      generalize wAddR room n c (hardB t v) ss = r3 at *
      obtain ⟨e3, s3, n3⟩ := r3
      try dsimp only at WH
      go_wp2_with fail
      go_at_call 67
      refine (unhide AC).mono ?_
      rintro e V3 ⟨rfl, z3, a3⟩
      have A3 := hide ((unhide A2).trans (a3.sub (Bv := Av) (fun g hg => .inl hg)))
      have X4 := hide ((a3.av w.heap.size (.inr ⟨Nat.le_refl _, by rw [unhide S1]; exact (Array.getElem?_eq_some_iff.1 (unhide X3)).1⟩)).trans (unhide X3))
      have Z3 := hide z3
      clear z3 a3 AC
      dsimp only
      by_cases h3 : e3 = 0
      · subst h3
        rw [if_neg (by simp)] at WH
        have R3 := hide (unhide Z3).lg.row
        obtain ⟨l1, l2⟩ := set2 (x := .int .i64 (t : Int)) (y := .int .i64 (v : Int)) (unhide R3)
        have zok := (unhide Z3).ok
        obtain ⟨p1, p2⟩ := (unhide Z3).put (c2 := { c with ht := t, hv := v }) (n' := n3) (hs2 := hs) ⟨l1⟩ l2 (unhide Z3).ow (fun g hg => .inr hg) ⟨zok.bi, zok.bt, (unhide TV).1, (unhide TV).2, zok.es⟩ (unhide Z3).nn (unhide Z3).le
        have FE := hide (show LgEnd Av base L d M room (N + 2) w wh (.returned (.int .i64 0)) ((V3.setCell ⟨L, 3, none⟩ (.int .i64 (t : Int))).setCell ⟨L, 4, none⟩ (.int .i64 (v : Int))) by
          rw [unhide WH]
          exact ⟨rfl, ⟨ep, ec, hs, p1.sub (fun g hg => ⟨.inl hg, ((unhide Z).av g hg).2⟩)⟩, (unhide A3).trans (p2.sub (fun g hg => .inl hg))⟩)
        have x0 : V3.cell? ⟨w.heap.size, 0, none⟩ = some (.int .i64 (t : Int)) := box_cell (unhide X4) 0 _ rfl
        have x1 : V3.cell? ⟨w.heap.size, 1, none⟩ = some (.int .i64 (v : Int)) := box_cell (unhide X4) 1 _ rfl
        have m3 : V3.cell? ⟨L, 3, none⟩ = some (.int .i64 (c.ht : Int)) := box_cell (unhide R3) 3 _ rfl
        have m4 : V3.cell? ⟨L, 4, none⟩ = some (.int .i64 (c.hv : Int)) := box_cell (unhide R3) 4 _ rfl
        have f3 := froz_of (unhide R3) 3
        have f4 := froz_of (unhide R3) 4
        clear p1 p2 l1 l2 zok
        go_wp2
        go_ret
        exact unhide FE
      · rw [if_pos h3] at WH
        have h3' : ((e3 : Int) == 0) = false := by simp; omega
        have h3'' : ¬ (e3 : Int) = 0 := by omega
        have FE := hide (show LgEnd Av base L d M room (N + 2) w wh (.returned (.int .i64 (e3 : Int))) V3 by
          rw [unhide WH]
          exact ⟨rfl, ⟨ep, ec, hs, (unhide Z3).sub (fun g hg => .inl hg)⟩, unhide A3⟩)
        go_wp2
        go_ret
        exact unhide FE
end
end Go.Proofs.YtijcpmbfhfppmaaGreatDoor
end
/- bytes.Clone. -/
section
namespace Go.Proofs.YtijcpmbfhfppmaaGreatDoor
open Go.ChangeShapes Go.WideShapes Go.ChangeAt Go.RowKit

theorem eqNil_some (ad : Addr) (n c : Nat) (w : World) : (binOp .eql 58 (.slice (some ad) n c) (.slice none 0 0)).run Tryz.prog w = .ok (.bool false) w := by kernel_rfl
theorem eqNil_none (n c : Nat) (w : World) : (binOp .eql 58 (.slice none n c) (.slice none 0 0)).run Tryz.prog w = .ok (.bool true) w := by kernel_rfl
theorem clone_calls (a : Option Addr) (n c : Nat) (l : List Nat) (w : World) (hn : l.length = n) (hl : n ≤ 140737488355328) (hb : BytesAt w a l) (hz : a = none → c = 0) :
    Calls Tryz.prog 60 #[.slice a n c] w fun e w' => ∃ sp' c', e = .returned (.slice sp' n c') ∧ OwnB w.heap.size w' sp' c' l ∧ Below w.heap.size w w' := by
  cases a with
  | none =>
    obtain rfl : l = [] := by
      cases l with
      | nil => rfl
      | cons x r => obtain ⟨b, off, h, _⟩ := hb.cell 0 (by simp); cases h
    obtain rfl := hz rfl
    obtain rfl : 0 = n := hn
    have hq := eqNil_none 0 0 w
    clear hb hz
    go_enter Tryz.func60, Tryz.ntmps60
    go_wp2
    go_ret
    exact ⟨none, 0, rfl, OwnB.ofNil _ _, Below.refl _ _⟩
  | some ad =>
    have O1 := hide (OwnB.empty w w.heap.size (Nat.le_refl _))
    have b1 := hide (show Below w.heap.size w (w.alloc (.cells #[] 5)) from (Below.refl _ _).alloc (Nat.le_refl _) _)
    have HB := hide (hb.later (unhide b1))
    have HN := hide hn
    have hq := eqNil_some ad n c w
    clear hb hz hn
    go_enter Tryz.func60, Tryz.ntmps60
    go_wp2_with (at_builtin; refine unhide ?_)
    refine hide ?_
    refine wpList_append8L rfl (.tmp 5) (.tmp 6) rfl w.heap.size (some ⟨w.heap.size, 0, none⟩) 0 0 [] rfl rfl (unhide O1) (some ad) n c rfl l (unhide HN) (unhide HB) (fun h => by cases h) (by simp only [List.length_nil]; omega) (by exact (unhide b1).size) ?_
    intro sp2 n2 c2 W2 hn2 ho2 hg2 hl2
    rw [List.nil_append] at hn2 ho2
    obtain rfl : n = n2 := (unhide HN).symm.trans (unhide hn2)
    have B2 := hide ((unhide b1).grown hg2 (unhide b1).size (fun g hg => by have := Option.some.inj hg; simp only at this; omega))
    have O2 := hide ho2
    clear hg2 hl2 ho2
    go_wp2
    go_ret
    exact ⟨sp2, c2, rfl, unhide O2, unhide B2⟩
end Go.Proofs.YtijcpmbfhfppmaaGreatDoor
end
/- Logs: what Append does, plainly; entries that stay where they lie. -/
section
namespace Go.Proofs.YtijcpmbfhfppmaaGreatDoor
open Go.ChangeShapes Go.WideShapes Go.ChangeAt Go.RowKit
set_option linter.unusedVariables false

def toN (e : EntI) : EntN := (e.1.toNat, e.2.1.toNat, e.2.2.1.toNat, e.2.2.2)
def addAll (c : Wc) (es : List EntI) : Wc := es.foldl (fun c e => addW c (toN e)) c
theorem recsE_all : ∀ {es : List EntI} {b : List Nat}, recsE es = .ok b → ∀ e ∈ es, toI (toN e) = e ∧ EOk (toN e)
  | [], _, _, e, he => by simp at he
  | x :: r, b, h, e, he => by
    rw [recsE_cons] at h
    cases hp : putE x with
    | error y => rw [hp] at h; cases h
    | ok c =>
      rw [hp] at h
      dsimp only at h
      cases hr : recsE r with
      | error y => rw [hr] at h; cases h
      | ok m =>
        rcases List.mem_cons.1 he with rfl | he
        · obtain ⟨k, t, i, h1, h2, h3, h4, h5, _, _⟩ := putE_ok hp
          obtain ⟨⟨a1, a2⟩, ⟨b1, b2⟩, ⟨c1, c2⟩, d1⟩ := h4
          obtain ⟨ek, et, ei, ed⟩ := e
          dsimp only at h1 h2 h3 h5 d1
          subst h1 h2 h3
          refine ⟨by simp [toI, toN], ⟨⟨?_, ?_⟩, ⟨?_, ?_⟩, ⟨?_, ?_⟩, ?_, h5⟩⟩ <;> simp only [toN, Int.toNat_natCast]
          · omega
          · omega
          · omega
          · omega
          · omega
          · omega
          · intro hk
            rcases d1 with d1 | d1
            · omega
            · exact List.eq_nil_of_length_eq_zero d1
        · exact recsE_all hr e he
theorem recsE_len : ∀ {es : List EntI} {b : List Nat}, recsE es = .ok b → b.length ≤ es.length * 2100
  | [], _, h => by cases h; simp
  | x :: r, b, h => by
    rw [recsE_cons] at h
    cases hp : putE x with
    | error y => rw [hp] at h; cases h
    | ok c =>
      rw [hp] at h
      dsimp only at h
      cases hr : recsE r with
      | error y => rw [hr] at h; cases h
      | ok m =>
        rw [hr] at h
        cases h
        have ih := recsE_len hr
        obtain ⟨k, t, i, _, _, _, _, _, _, h7⟩ := putE_ok hp
        rw [List.length_append, recB_length, List.length_cons]
        omega
/-- The content while entries are added: each fits where it comes. -/
theorem addAll_take (c : Wc) (es : List EntI) (j : Nat) (hj : j < es.length) : addAll c (es.take (j + 1)) = addW (addAll c (es.take j)) (toN es[j]) := by
  unfold addAll
  rw [List.take_succ_eq_append_getElem hj, List.foldl_append]
  rfl
theorem addAll_bi (c : Wc) (es : List EntI) : (addAll c es).bi = c.bi ∧ (addAll c es).bt = c.bt ∧ (addAll c es).ht = c.ht ∧ (addAll c es).hv = c.hv := by
  unfold addAll
  induction es generalizing c with
  | nil => exact ⟨rfl, rfl, rfl, rfl⟩
  | cons e r ih => exact ih (addW c (toN e))
theorem addAll_ok {c : Wc} (hc : WOk c) : ∀ (es : List EntI), (∀ e ∈ es, EOk (toN e)) → WOk (addAll c es) := by
  intro es
  unfold addAll
  induction es generalizing c with
  | nil => exact fun _ => hc
  | cons e r ih =>
    intro h
    refine ih (c := addW c (toN e)) ⟨hc.bi, hc.bt, hc.ht, hc.hv, fun x hx => ?_⟩ (fun x hx => h x (by simp [hx]))
    rcases List.mem_append.1 hx with hx | hx
    · exact hc.es x (List.mem_of_mem_take hx)
    · rw [List.mem_singleton.1 hx]
      exact h e (by simp)
theorem addAll_len (c : Wc) (es : List EntI) : (addAll c es).es.length ≤ c.es.length + es.length := by
  unfold addAll
  induction es generalizing c with
  | nil => exact Nat.le_refl _
  | cons e r ih =>
    have := ih (addW c (toN e))
    rw [List.foldl_cons, List.length_cons]
    have h2 : (addW c (toN e)).es.length ≤ c.es.length + 1 := by
      unfold addW
      rw [List.length_append, List.length_take]
      simp only [List.length_singleton]
      omega
    omega
theorem chain_at : ∀ (i : Int) (es : List EntI), chainI i es = true → ∀ j (hj : j < es.length), es[j].2.2.1 = i + 1 + j
  | _, [], _, j, hj => by simp at hj
  | i, e :: r, h, j, hj => by
    rw [chainI_cons, Bool.and_eq_true, beq_iff_eq] at h
    cases j with
    | zero => simp only [List.getElem_cons_zero]; omega
    | succ j =>
      have := chain_at _ r h.2 j (by simp only [List.length_cons] at hj; omega)
      simp only [List.getElem_cons_succ]
      rw [this, h.1]
      omega
/-- Each entry fits the content that those ahead of it left. -/
theorem fit_at {c : Wc} {es : List EntI} (h : fitAllW c es = true) (hp : ∀ e ∈ es, 1 ≤ e.2.2.1) : ∀ j (hj : j < es.length), c.bi < es[j].2.2.1.toNat ∧ es[j].2.2.1.toNat ≤ c.bi + (addAll c (es.take j)).es.length + 1 := by
  cases es with
  | nil => intro j hj; simp at hj
  | cons e r =>
    rw [fitAllW_cons, Bool.and_eq_true] at h
    obtain ⟨h1, h2⟩ := h
    unfold fitsW at h1
    rw [Bool.and_eq_true, decide_eq_true_eq, decide_eq_true_eq] at h1
    have hix : ∀ j (hj : j < (e :: r).length), (e :: r)[j].2.2.1 = e.2.2.1 + j := by
      intro j hj
      cases j with
      | zero => simp
      | succ j =>
        have := chain_at _ r h2 j (by simp only [List.length_cons] at hj; omega)
        simp only [List.getElem_cons_succ]
        rw [this]
        omega
    intro j
    induction j with
    | zero =>
      intro hj
      have := hix 0 hj
      simp only [List.getElem_cons_zero, List.take_zero] at this ⊢
      have h0 : (addAll c []).es = c.es := rfl
      rw [h0]
      omega
    | succ j ih =>
      intro hj
      have ih := ih (by omega)
      have h3 := hix (j + 1) hj
      have h4 := hix j (by omega)
      rw [addAll_take c (e :: r) j (by omega)]
      have hb := (addAll_bi c ((e :: r).take j)).1
      have h5 : (addW (addAll c ((e :: r).take j)) (toN (e :: r)[j])).es.length = (e :: r)[j].2.2.1.toNat - c.bi := by
        unfold addW
        rw [List.length_append, List.length_take, hb]
        simp only [List.length_singleton, toN]
        omega
      rw [h5]
      omega
/-- Append: the error, the disk, the content, the file's number. -/
def wAppend (room n : Nat) (c : Wc) (es : List EntI) (ss : Ds) : Nat × Ds × Wc × Nat :=
  match recsE es with
  | .error x => (x, ss, c, n)
  | .ok b =>
    if fitAllW c es = false then (2, ss, c, n)
    else if es.length = 0 then (0, ss, c, n)
    else if (wAddR room n c b ss).1 ≠ 0 then ((wAddR room n c b ss).1, (wAddR room n c b ss).2.1, c, (wAddR room n c b ss).2.2)
    else (0, (wAddR room n c b ss).2.1, addAll c es, (wAddR room n c b ss).2.2)
/-- Entries whose blocks are among those of P. -/
structure EntsIn (P : Nat → Prop) (w : World) (a : Option Addr) (es : List EntI) : Prop where
  at_ : EntsAt w a es
  row : ∀ b off, a = some ⟨b, off, none⟩ → 0 < es.length → P b
  dat : ∀ i (hi : i < es.length) b off dp dc n, a = some ⟨b, off, none⟩ → w.cell? ⟨b, off + i * 4 + 3, none⟩ = some (.slice dp n dc) → ∀ g o, dp = some ⟨g, o, none⟩ → 0 < (es[i]).2.2.2.length → P g
section
variable {Av : Nat → Prop} {base : Nat} {w w' : World} {L d M room N N' : Nat} {ss ss' : Ds} {c : Wc} {n : Nat} {ep : Option Addr} {ec : Nat} {hs : List (Option Addr × Nat)}
theorem EntsIn.asd {a : Option Addr} {es : List EntI} (h : EntsIn (fun g => g < base ∨ Av g) w a es) (ha : Asd Av base w w') : EntsIn (fun g => g < base ∨ Av g) w' a es := by
  have hk : ∀ g, (g < base ∨ Av g) → w'.heap[g]? = w.heap[g]? := fun g hg => hg.elim (ha.bel.block g) (ha.av g)
  refine ⟨⟨fun i hi => ?_⟩, h.row, fun i hi b off dp dc n e hc => ?_⟩
  · obtain ⟨b, off, dp, dc, h0, h1, h2, h3, h4, h5, h6⟩ := h.at_.cell i hi
    have hb := hk b (h.row b off h0 (by omega))
    refine ⟨b, off, dp, dc, h0, (World.cell?_of_block hb).trans h1, (World.cell?_of_block hb).trans h2, (World.cell?_of_block hb).trans h3, (World.cell?_of_block hb).trans h4, ⟨h5.lt, fun k hk2 => ?_⟩, h6⟩
    obtain ⟨g, o, e1, e2⟩ := h5.cell k hk2
    exact ⟨g, o, e1, (World.cell?_of_block (hk g (h.dat i hi b off dp dc _ h0 h4 g o e1 (by omega)))).trans e2⟩
  · have hb := hk b (h.row b off e (by omega))
    exact h.dat i hi b off dp dc n e ((World.cell?_of_block hb).symm.trans hc)
theorem EntsIn.ofLt {a : Option Addr} {es : List EntI} (h : EntsAt w a es) : EntsIn (fun g => g < w.heap.size) w a es := by
  have lt : ∀ b i v, w.cell? ⟨b, i, none⟩ = some v → b < w.heap.size := fun b i v hc => by
    by_cases hb : b < w.heap.size
    · exact hb
    · unfold World.cell? at hc
      simp only [Array.getElem?_eq_none (Nat.not_lt.1 hb)] at hc
      cases hc
  refine ⟨h, fun b off e h0 => ?_, fun i hi b off dp dc n e hc g o e1 h0 => ?_⟩
  · obtain ⟨b', off', dp, dc, q0, q1, _⟩ := h.cell 0 h0
    rw [e] at q0
    cases q0
    exact lt b _ _ q1
  · obtain ⟨b', off', dp', dc', q0, _, _, _, q4, q5, _⟩ := h.cell i hi
    rw [e] at q0
    cases q0
    rw [hc] at q4
    simp only [Option.some.injEq, Value.slice.injEq] at q4
    obtain ⟨rfl, _, _⟩ := q4
    obtain ⟨g', o', e2, e3⟩ := q5.cell 0 h0
    rw [e1] at e2
    cases e2
    exact lt g _ _ e3
theorem EntsIn.sub {P Q : Nat → Prop} {a : Option Addr} {es : List EntI} (h : EntsIn P w a es) (hs : ∀ g, P g → Q g) : EntsIn Q w a es :=
  ⟨h.at_, fun b off e h0 => hs b (h.row b off e h0), fun i hi b off dp dc n e hc g o e1 h0 => hs g (h.dat i hi b off dp dc n e hc g o e1 h0)⟩
/-- Blocks that lie aside are written, and new ones come. -/
theorem DAt.grow (h : DAt Av base w d M room N ss) (hs : ∀ g, g < w.heap.size → ¬ Av g → w'.heap[g]? = w.heap[g]?) (hz : w.heap.size ≤ w'.heap.size) : DAt (fun g => Av g ∨ (w.heap.size ≤ g ∧ g < w'.heap.size)) base w' d M room N ss := by
  obtain ⟨fs, h1, h2, h3⟩ := h.at_
  refine ⟨Nat.le_trans h.le hz, h.few, fs, h1.same (fun g hg hm => hs g hg (fun ha => ?_)), h2, fun g hg => ?_⟩
  · rcases hm with hm | hm
    · exact (h3 g ha).2.1 hm
    · exact (h3 g ha).2.2 hm
  · rcases hg with hg | ⟨g1, g2⟩
    · exact ⟨Nat.lt_of_lt_of_le (h3 g hg).1 hz, (h3 g hg).2⟩
    · refine ⟨g2, fun hm => ?_, fun hm => ?_⟩
      · have := (h1.mut_lt hm).2; omega
      · have := (h1.red_lt hm).2; omega
/-- A log's content is changed in place. -/
theorem WAt.added (z : WAt Av base w L d M room N ss c n ep ec hs) {V : World} (u : Below w.heap.size w V) {c' : Wc} {ep' : Option Addr} {ec' : Nat} {hs' : List (Option Addr × Nat)} (hC : CtAt w' L 96 [.pointer (some ⟨d, 0, none⟩)] [.int .i64 (n : Int)] c' ep' ec') (hO : OwnL base w' ep' ec' c'.es hs') (hg : Grew2 L (blk ep) V w') (hf : ∀ g, LFoot ep' hs' g → LFoot ep hs g ∨ w.heap.size ≤ g) (hok : WOk c') (hle : c'.es.length ≤ 1000000) :
    WAt Av base w' L d M room N ss c' n ep' ec' hs' ∧ Asd Av base w w' := by
  have hz : w.heap.size ≤ w'.heap.size := Nat.le_trans u.size hg.size
  have hs1 : ∀ g, g < w.heap.size → ¬ (Av g ∨ g = L ∨ LFoot ep hs g) → w'.heap[g]? = w.heap[g]? := fun g h1 h2 =>
    (hg.block g (Nat.lt_of_lt_of_le h1 u.size) (fun e => h2 (.inr (.inl e))) (fun e => h2 (.inr (.inr (.inl e))))).trans (u.block g h1)
  have hA : ∀ g, Av g → w'.heap[g]? = w.heap[g]? := fun g h1 =>
    (hg.block g (Nat.lt_of_lt_of_le (z.dk.lt (.inl h1)) u.size) (z.av g h1).1 (fun e => (z.av g h1).2 (.inl e))).trans (u.block g (z.dk.lt (.inl h1)))
  have hb : Below base w w' := by
    refine ⟨hg.os.trans u.os, hg.tape.trans u.tape, hg.output.trans u.output, hz, fun g h1 => ?_⟩
    refine (hg.block g (Nat.lt_of_lt_of_le h1 (Nat.le_trans z.dk.le u.size)) (fun e => by have := z.bl; omega) (fun e => ?_)).trans (u.block g (Nat.lt_of_lt_of_le h1 z.dk.le))
    have := (z.ow.foot g (.inl e)).1
    omega
  refine ⟨⟨(z.dk.grow hs1 hz).av (fun g h1 => ?_), hC, hO, z.bl, fun g h1 => ⟨(z.av g h1).1, fun h2 => ?_⟩, hok, z.nn, hle, let ⟨w0, q1, q2, q3⟩ := z.tz; ⟨w0, q1, q2, q3.trans hb⟩⟩, hA, hb⟩
  · rcases h1 with h1 | h1 | h1
    · exact .inl (.inl h1)
    · exact .inl (.inr (.inl h1))
    · rcases hf g h1 with q | q
      · exact .inl (.inr (.inr q))
      · exact .inr ⟨q, (hO.foot g h1).2.1⟩
  · rcases hf g h2 with q | q
    · exact (z.av g h1).2 q
    · have := z.dk.lt (.inl h1)
      omega
end
end Go.Proofs.YtijcpmbfhfppmaaGreatDoor
end
/- Logs: Append. -/
section
namespace Go.Proofs.YtijcpmbfhfppmaaGreatDoor
open Go.ChangeShapes Go.WideShapes Go.ChangeAt Go.RowKit
set_option linter.unusedVariables false

theorem recsE_ne : ∀ {es : List EntI} {x : Nat}, recsE es = .error x → x ≠ 0
  | [], _, h => by cases h
  | e :: r, x, h => by
    rw [recsE_cons] at h
    cases hp : putE e with
    | error y =>
      rw [hp] at h
      cases h
      unfold putE at hp
      split at hp
      · split at hp
        · cases hp
        · cases hp; omega
      · cases hp; omega
    | ok c =>
      rw [hp] at h
      dsimp only at h
      cases hr : recsE r with
      | error y => rw [hr] at h; cases h; exact recsE_ne hr
      | ok m => rw [hr] at h; cases h
section
variable {Av : Nat → Prop} {base : Nat} {w w' : World} {L d M room N N' : Nat} {ss ss' : Ds} {c : Wc} {n : Nat} {ep : Option Addr} {ec : Nat} {hs : List (Option Addr × Nat)}
set_option maxRecDepth 20000 in
set_option maxHeartbeats 16000000 in
theorem append_calls (z : WAt Av base w L d M room N ss c n ep ec hs) (hN : N + 2 ≤ 1000000) (a : Option Addr) (m k : Nat) (es : List EntI) (hm : es.length = m) (hE : EntsIn (fun g => g < base ∨ Av g) w a es) (hl : c.es.length + m ≤ 1000000) :
    Calls Tryz.prog 27 #[.pointer (some ⟨L, 0, none⟩), .slice a m k] w (LgEnd Av base L d M room (N + 2) w (wAppend room n c es ss)) := by
  have WH := hide (show wAppend room n c es ss = (match recsE es with
    | .error x => (x, ss, c, n)
    | .ok b =>
      if fitAllW c es = false then (2, ss, c, n)
      else if es.length = 0 then (0, ss, c, n)
      else if (wAddR room n c b ss).1 ≠ 0 then ((wAddR room n c b ss).1, (wAddR room n c b ss).2.1, c, (wAddR room n c b ss).2.2)
      else (0, (wAddR room n c b ss).2.1, addAll c es, (wAddR room n c b ss).2.2)) from rfl)
  generalize wAppend room n c es ss = wh at *
  have Z := hide z
  have HE := hide hE
  have HM := hide hm
  have EC := hide (entryRecords_calls a m k es w hm hE.at_ (by omega))
  have FS := hide (show ∀ (r : Nat) W, Below w.heap.size w W → LgEnd Av base L d M room (N + 2) w (r, ss, c, n) (.returned (.int .i64 (r : Int))) W from fun r W u => ⟨rfl, ⟨ep, ec, hs, (z.later u).monoN (by omega) hN⟩, (z.asdB u).sub (fun g hg => .inl hg)⟩)
  clear z hE hm
  cases hr : recsE es with
  | error x =>
    rw [hr] at WH EC
    have hx := recsE_ne hr
    have hx0 : ¬ (x : Int) = 0 := by omega
    have hx1 : ((x : Int) == 0) = false := by simp; omega
    clear hr hx
    go_enter Tryz.func27, Tryz.ntmps27
    go_wp2_with fail
    go_at_call 65
    refine (unhide EC).mono ?_
    rintro e V1 ⟨v1, rfl⟩
    have FE := hide (unhide FS x V1 v1)
    clear v1
    go_wp2
    go_ret
    rw [unhide WH]
    exact unhide FE
  | ok b =>
    rw [hr] at WH EC
    dsimp only at WH
    have AL := hide (recsE_all hr)
    have RL := hide (recsE_len hr)
    have IX := hide (show ∀ e ∈ es, 1 ≤ e.2.2.1 ∧ e.2.2.1 ≤ 1099511627776 from fun e he => by
      obtain ⟨h1, ⟨_, _, ⟨h2, h3⟩, _⟩⟩ := recsE_all hr e he
      simp only [toN] at h2 h3
      omega)
    clear hr
    go_enter Tryz.func27, Tryz.ntmps27
    go_wp2_with fail
    go_at_call 65
    refine (unhide EC).mono ?_
    rintro e V1 ⟨v1, sp1, n1, k1, rfl, hn1, o1⟩
    have U1 := hide v1
    have O1 := hide o1
    have FC := hide (fitAll_calls ((unhide Z).later v1).lg 1 rfl (unhide Z).ok.bi (unhide Z).le a m k es (unhide HM) (by omega) ((unhide HE).at_.later v1) (unhide IX))
    clear v1 o1 EC
    go_wp2_with fail
    go_at_call 66
    refine (unhide FC).mono ?_
    rintro e V2 ⟨rfl, v2⟩
    have U2 := hide ((unhide U1).trans (v2.mono (unhide U1).size))
    have O2 := hide ((unhide O1).later v2)
    clear v2 O1 FC
    cases hfa : fitAllW c es with
    | false =>
      rw [if_pos hfa] at WH
      have FE := hide (unhide FS 2 V2 (unhide U2))
      clear hfa
      go_wp2
      go_ret
      rw [unhide WH]
      exact unhide FE
    | true =>
      rw [if_neg (by rw [hfa]; simp)] at WH
      by_cases h0 : m = 0
      · rw [if_pos (by rw [unhide HM]; exact h0)] at WH
        have h0' : ((m : Int) == 0) = true := by simp [h0]
        have FE := hide (unhide FS 0 V2 (unhide U2))
        clear h0 hfa
        go_wp2
        go_ret
        rw [unhide WH]
        exact unhide FE
      · rw [if_neg (by rw [unhide HM]; exact h0)] at WH
        have h0' : ((m : Int) == 0) = false := by simp; omega
        have h0'' : ¬ (m : Int) = 0 := by omega
        have FA := hide (fit_at hfa (fun e he => (unhide IX e he).1))
        have Z2 := hide ((unhide Z).more (unhide U2))
        have AC := hide (addRecords_calls (unhide Z2) hN sp1 n1 k1 b (unhide hn1) (by rw [← unhide hn1]; exact (unhide O2).cap.1) (unhide O2).bytes (unhide O2).toBx.nil0 (fun g off e h0 => .inr (.inr ⟨by
          have h1 := ((unhide O2).blk_lt g (by rw [e]; rfl)).1
          omega, ((unhide O2).blk_lt g (by rw [e]; rfl)).2⟩)) (by have := unhide hn1; have := unhide RL; have := unhide HM; omega))
        generalize wAddR room n c b ss = r3 at *
        obtain ⟨e3, s3, n3⟩ := r3
        try dsimp only at WH
        clear h0 hfa
        go_wp2_with fail
        go_at_call 67
        refine (unhide AC).mono ?_
        rintro e V3 ⟨rfl, z3, a3⟩
        have A3 := hide ((((unhide Z).asdB (unhide U2)).sub (Bv := Av) (fun g hg => .inl hg)).trans (a3.sub (Bv := Av) (fun g hg => .inl hg)))
        have Z3 := hide (z3.sub (Bv := Av) (fun g hg => .inl hg))
        clear z3 a3 AC
        dsimp only at *
        by_cases h3 : e3 = 0
        · subst h3
          rw [if_neg (by simp)] at WH
          rw [show ((0 : Nat) : Int) = 0 from rfl]
          go_wp2_with fail
          go_loopw [37] (fun i wr => ∃ (j : Nat) (ep : Option Addr) (ec : Nat) (hs : List (Option Addr × Nat)), j ≤ m ∧ i = .int .i64 (j : Int) ∧ Hid (WAt Av base wr L d M room (N + 2) s3 (addAll c (es.take j)) n3 ep ec hs) ∧ Hid (Asd Av base w wr)) (fun i _ => m - (intOf i).toNat)
          case atStart => exact ⟨0, ep, ec, hs, by omega, rfl, Z3, A3⟩
          case round =>
            clear Z3 A3
            obtain ⟨j, ep, ec, hs, hj, rfl, Z4, A4⟩ := hrel
            by_cases hjm : j < m
            · have y0 : (0 : Int) ≤ (j : Int) := by omega
              have y1 : (j : Int) < (m : Int) := by omega
              have hjl : j < es.length := by rw [unhide HM]; exact hjm
              obtain ⟨b', off, dp, dc, rfl, p0, p1, p2, p3, q4, nz⟩ := ((unhide HE).asd (unhide A4)).at_.cell j hjl
              obtain ⟨hx1, hx2⟩ := unhide AL es[j] (List.getElem_mem hjl)
              have FJ := unhide FA j hjl
              have ST := addAll_take c es j hjl
              have OK1 := hide (addAll_ok (unhide Z).ok (es.take (j + 1)) (fun e he => (unhide AL e (List.mem_of_mem_take he)).2))
              have LE1 := hide (show (addAll c (es.take (j + 1))).es.length ≤ 1000000 by
                have h1 := addAll_len c (es.take (j + 1))
                rw [List.length_take] at h1
                omega)
              have LE0 := (unhide Z4).le
              have BI0 : (addAll c (es.take j)).bi = c.bi := (addAll_bi c (es.take j)).1
              obtain ⟨x, hx⟩ : ∃ x, toN es[j] = x := ⟨_, rfl⟩
              rw [hx] at hx1 hx2 ST
              rw [← hx1] at p0 p1 p2 p3 q4 FJ
              obtain ⟨xk, xt, xi, xd⟩ := x
              simp only [toI] at p0 p1 p2 p3 q4 FJ
              rw [Int.toNat_natCast] at FJ
              have hxd : xd.length ≤ 2048 := hx2.2.2.2.2
              have cbi := (unhide Z).ok.bi
              have AD := hide (fun (W : World) (u : Below wr.heap.size wr W) (sp : Option Addr) (k : Nat) (hb : Bx base W sp k xd) => add_calls (e := (xk, xt, xi, xd)) ((unhide Z4).later u).lg 1 rfl (by decide) (by decide) ((unhide Z4).later u).ow (by rw [BI0]; exact cbi) LE0 sp xd.length k rfl hb (by dsimp only; rw [BI0]; exact FJ.1) (by dsimp only; rw [BI0]; exact FJ.2) (Nat.le_trans (unhide Z4).dk.le u.size))
              rw [← ST] at AD
              have v1 : Below wr.heap.size wr (wr.alloc (entB (xk : Int) (xt : Int) (xi : Int) dp xd.length dc)) := (Below.refl _ _).alloc (Nat.le_refl _) _
              have X1 := hide (heap_new wr (entB (xk : Int) (xt : Int) (xi : Int) dp xd.length dc))
              obtain ⟨e0, e1, e2, e3⟩ := entB_cells (unhide X1)
              have SZ1 := hide (show (wr.alloc (entB (xk : Int) (xt : Int) (xi : Int) dp xd.length dc)).heap.size = wr.heap.size + 1 by simp)
              have CL := hide (clone_calls dp xd.length dc xd (wr.alloc (entB (xk : Int) (xt : Int) (xi : Int) dp xd.length dc)) rfl (by omega) (q4.later v1) nz)
              have B1 := hide v1
              clear v1 q4 nz hx1 hx2 FJ ST BI0 LE0 hx hjl
              go_wp2_with fail
              clear e0 e1 e2 e3 p0 p1 p2 p3
              generalize wr.alloc _ = W1 at *
              go_at_call 60
              refine (unhide CL).mono ?_
              rintro e V4 ⟨sp4, c4, rfl, o4, v4⟩
              have X2 := hide (later_block v4 (unhide X1))
              obtain ⟨e0, e1, e2, e3⟩ := entB_cells (unhide X2)
              have f3 := froz_of (unhide X2) 3
              have U4 := hide ((unhide B1).trans (v4.mono (unhide B1).size))
              have X5 := hide (heap_setCell_same V4 wr.heap.size 3 _ _ (.slice sp4 xd.length c4) (unhide X2))
              have G5 := hide (grown_set V4 wr.heap.size 3 (.slice sp4 xd.length c4))
              have U5 := hide ((unhide U4).grown (unhide G5) (unhide U4).size (fun g e => by have := Option.some.inj e; omega))
              have O5 := hide (o4.far (unhide G5) (by rw [unhide SZ1]; omega))
              clear o4 v4 CL
              go_wp2_with fail
              clear e0 e1 e2 e3 f3
              generalize V4.setCell _ _ = W5 at *
              have d0 : W5.drew.cell? ⟨wr.heap.size, 0, none⟩ = some (.int .i64 (xk : Int)) := box_cell (unhide X5) 0 _ rfl
              have d1 : W5.drew.cell? ⟨wr.heap.size, 1, none⟩ = some (.int .i64 (xt : Int)) := box_cell (unhide X5) 1 _ rfl
              have d2 : W5.drew.cell? ⟨wr.heap.size, 2, none⟩ = some (.int .i64 (xi : Int)) := box_cell (unhide X5) 2 _ rfl
              have d3 : W5.drew.cell? ⟨wr.heap.size, 3, none⟩ = some (.slice sp4 xd.length c4) := box_cell (unhide X5) 3 _ rfl
              have U6 := hide (show Below wr.heap.size wr W5.drew from (unhide U5).trans ((Below.refl _ _).drew))
              have AC := hide (unhide AD W5.drew (unhide U6) sp4 c4 ((((unhide O5).mono (show base ≤ W1.heap.size by rw [unhide SZ1]; have := (unhide Z4).dk.le; omega)).later ((Below.refl _ _).drew)).toBx))
              have S5 := hide (show wr.heap.size < W5.heap.size from (Array.getElem?_eq_some_iff.1 (unhide X5)).1)
              refine wp_region_held_drew (S := fun w' => w'.cell? ⟨wr.heap.size, 0, none⟩ = some (.int .i64 (xk : Int)) ∧ w'.cell? ⟨wr.heap.size, 1, none⟩ = some (.int .i64 (xt : Int)) ∧ w'.cell? ⟨wr.heap.size, 2, none⟩ = some (.int .i64 (xi : Int)) ∧ w'.cell? ⟨wr.heap.size, 3, none⟩ = some (.slice sp4 xd.length c4)) (by kernel_rfl) ?_ (fun hHeld => ?_)
              · try dsimp only
                first | exact ⟨d0, d1, d2, d3⟩ | exact ⟨g0, g1, g2, g3⟩
              refine held_take 0 (oi := { dst := some 45, op := Op.move (Operand.tmp 0), type := 39, pos := "wal.go:57", after := #[], guard := none }) (v := ?_) (by kernel_rfl) rfl (by rfl) (by kernel_rfl) (by kernel_rfl) (fun _ _ _ h => h) ?_ (by assumption) ?_
              rotate_left
              · (intro w hSw; (try dsimp only at hSw); go_simp; try with_reducible rfl)
              try simp only [Act.put, List.setIfInBounds_toArray, List.set_cons_zero, List.set_cons_succ]
              refine held_take 1 (oi := { dst := some 46, op := Op.nilCheck (Operand.tmp 45), type := 0, pos := "wal.go:57", after := #[{ on := 0, ground := Ground.data }], guard := none }) (v := ?_) (by kernel_rfl) rfl (by rfl) (by kernel_rfl) (by kernel_rfl) (fun _ _ _ h => h) ?_ (by assumption) ?_
              rotate_left
              · (intro w hSw; (try dsimp only at hSw); go_simp; try with_reducible rfl)
              try simp only [Act.put, List.setIfInBounds_toArray, List.set_cons_zero, List.set_cons_succ]
              refine held_take 2 (oi := { dst := some 47, op := Op.fieldAddr 96 (Operand.tmp 46) 1, type := 0, pos := "wal.go:57", after := #[{ on := 1, ground := Ground.data }], guard := none }) (v := ?_) (by kernel_rfl) rfl (by rfl) (by kernel_rfl) (by kernel_rfl) (fun _ _ _ h => h) ?_ (by assumption) ?_
              rotate_left
              · (intro w hSw; (try dsimp only at hSw); go_simp; try with_reducible rfl)
              try simp only [Act.put, List.setIfInBounds_toArray, List.set_cons_zero, List.set_cons_succ]
              refine held_take 3 (oi := { dst := some 48, op := Op.load 60 (Operand.tmp 9), type := 60, pos := "wal.go:57", after := #[], guard := none }) (v := ?_) (by kernel_rfl) rfl (by rfl) (by kernel_rfl) (by kernel_rfl) (fun _ _ _ h => h) ?_ (by assumption) ?_
              rotate_left
              · (intro w hSw; (try dsimp only at hSw); go_simp; try with_reducible rfl)
              try simp only [Act.put, List.setIfInBounds_toArray, List.set_cons_zero, List.set_cons_succ]
              refine held_one 4 (oi := { dst := some 49, op := Op.call { callee := Callee.value (Operand.func 68), args := #[Operand.tmp 47, Operand.tmp 48], argTypes := #[94, 60] }, type := 0, pos := "wal.go:57", after := #[{ on := 2, ground := Ground.data }, { on := 3, ground := Ground.data }], guard := none }) (by kernel_rfl) rfl (fun K hK => ?_)
              go_simp
              first
                | (go_at_call 68
                   refine (unhide AC).mono ?_
                   rintro e V6 ⟨rfl, ep6, ec6, hs6, hc6, ho6, hg6, hf6⟩
                   have hk6 := hg6.block wr.heap.size (unhide S5) (fun e => by have := (unhide Z4).ltL; omega) (fun e => by have := ((unhide Z4).ow.foot _ (.inl e)).2.1; omega)
                   have g0 := (World.cell?_of_block (a := ⟨wr.heap.size, 0, none⟩) hk6).trans d0
                   have g1 := (World.cell?_of_block (a := ⟨wr.heap.size, 1, none⟩) hk6).trans d1
                   have g2 := (World.cell?_of_block (a := ⟨wr.heap.size, 2, none⟩) hk6).trans d2
                   have g3 := (World.cell?_of_block (a := ⟨wr.heap.size, 3, none⟩) hk6).trans d3
                   have ZA := hide ((unhide Z4).added (unhide U6) hc6 ho6 hg6 (fun g hg => by
                     rcases hf6 g hg with q | q | q
                     · exact .inl q
                     · right
                       have h1 := ((unhide O5).blk_lt g q).1
                       have h2 := unhide SZ1
                       omega
                     · right
                       exact Nat.le_trans (unhide U6).size q) (unhide OK1) (unhide LE1))
                   clear hc6 ho6 hg6 hf6 hk6)
              go_wp2_with fail
              refine hK.out _ _ ?_ (fun hHeld => ?_)
              · try dsimp only
                first | exact ⟨d0, d1, d2, d3⟩ | exact ⟨g0, g1, g2, g3⟩
              clear hK K
              try simp only [Act.put, List.setIfInBounds_toArray, List.set_cons_zero, List.set_cons_succ]
              refine wpAnyH_done (by kernel_rfl) ?_ _
              have Z6 := hide (unhide ZA).1
              have A6 := hide ((unhide A4).trans (unhide ZA).2)
              clear ZA d0 d1 d2 d3 g0 g1 g2 g3
              go_wp2
              exact ⟨⟨j + 1, ep6, ec6, hs6, by omega, by go_num, Z6, A6⟩, by simp [intOf]; omega⟩
            · have hjj : ¬ (j : Int) < (m : Int) := by omega
              obtain rfl : j = m := by omega
              have FE := hide (show LgEnd Av base L d M room (N + 2) w wh (.returned (.int .i64 0)) wr by
                have h := unhide Z4
                rw [List.take_of_length_le (by rw [unhide HM]; exact Nat.le_refl _)] at h
                rw [unhide WH]
                exact ⟨rfl, ⟨ep, ec, hs, h⟩, unhide A4⟩)
              go_wp2
              go_ret
              exact unhide FE
        · rw [if_pos h3] at WH
          have h3' : ((e3 : Int) == 0) = false := by simp; omega
          have h3'' : ¬ (e3 : Int) = 0 := by omega
          have FE := hide (show LgEnd Av base L d M room (N + 2) w wh (.returned (.int .i64 (e3 : Int))) V3 by
            rw [unhide WH]
            exact ⟨rfl, ⟨ep, ec, hs, unhide Z3⟩, unhide A3⟩)
          go_wp2
          go_ret
          exact unhide FE
end
end Go.Proofs.YtijcpmbfhfppmaaGreatDoor
end
