/- Logs: what a record says is taken. -/
import Derived.Test.YtijcpmbfhfppmaaGreatDoorWl3
import Derived.Test.YtijcpmbfhfppmaaGreatDoorWtak
import Derived.Test.YtijcpmbfhfppmaaGreatDoorRgent
namespace Go.Proofs.YtijcpmbfhfppmaaGreatDoor
open Go.ChangeShapes Go.WideShapes Go.ChangeAt Go.RowKit
set_option linter.unusedVariables false

def markR (c : Wc) (l : List Nat) : Option Wc := match takeE l 0 with
  | .error _ => none
  | .ok (i, k) => match takeE l k with
    | .error _ => none
    | .ok (t, k2) => if k2 < l.length then none else some ⟨i, t, c.ht, c.hv, []⟩
def hardR (c : Wc) (l : List Nat) : Option Wc := match wholeE l (hardE l 0) with
  | .error _ => none
  | .ok (t, v) => some ⟨c.bi, c.bt, t, v, c.es⟩
def entR (c : Wc) (l : List Nat) : Option Wc := match wholeE l (entryE l 0) with
  | .error _ => none
  | .ok e => if fitsW c (e.2.2.1 : Int) = true then some (addW c e) else none
/-- What a record makes of it. -/
def takeR (c : Wc) : List Nat → Option Wc
  | [] => none
  | k :: b => if k = 1 then markR c b else if k = 2 then hardR c b else if k = 3 then entR c b else none
def TakeEnd (base : Nat) (w : World) (B : Nat) (T : TypeId) (p q : List Value) (ep : Option Addr) (hs : List (Option Addr × Nat)) (r : Option Wc) (e : Ending) (w' : World) : Prop :=
  Grew2 B (blk ep) w w' ∧ (match r with
    | none => e = .returned (.bool false)
    | some c' => e = .returned (.bool true) ∧ ∃ ep' ec' hs', CtAt w' B T p q c' ep' ec' ∧ OwnL base w' ep' ec' c'.es hs' ∧ ∀ g, LFoot ep' hs' g → LFoot ep hs g ∨ w.heap.size ≤ g)
theorem takeE_le {l : List Nat} {k n k2 : Nat} (h : takeE l k = .ok (n, k2)) (hl : ∀ c ∈ l, c < 256) : k2 ≤ l.length ∧ n ≤ 1099511627776 := by
  obtain ⟨_, _, h3, h4⟩ := takeE_back hl h
  exact ⟨h3, h4⟩
theorem takeNum_ok (a : Option Addr) (m c : Nat) (l : List Nat) (k n k2 : Nat) (w : World) (hm : l.length = m) (hl : m ≤ maxLen) (hk : k ≤ l.length) (hb : BytesAt w a l) (ht : takeE l k = .ok (n, k2)) :
    Calls Tryz.prog 185 #[.slice a m c, .int .i64 (k : Int)] w fun e w' => e = .returned (.tuple #[.int .i64 (n : Int), .int .i64 (k2 : Int), .int .i64 0]) ∧ Below w.heap.size w w' := by
  unfold takeE at ht
  split at ht
  · rename_i h0
    simp only [Except.ok.injEq, Prod.mk.injEq] at ht
    refine take_ok a m c l k n k2 (k : Int) w hm rfl (by omega) hk hb ?_
    rw [← ht.1, ← ht.2, ← h0]
  · cases ht
theorem takeNum_bad (a : Option Addr) (m c : Nat) (l : List Nat) (k x : Nat) (w : World) (hm : l.length = m) (hl : m ≤ maxLen) (hk : k ≤ l.length) (hb : BytesAt w a l) (ht : takeE l k = .error x) :
    Calls Tryz.prog 185 #[.slice a m c, .int .i64 (k : Int)] w fun e w' => e = .returned (.tuple #[.int .i64 0, .int .i64 0, .int .i64 (x : Int)]) ∧ Below w.heap.size w w' := by
  have hx := takeE_pos ht
  unfold takeE at ht
  split at ht
  · cases ht
  · simp only [Except.error.injEq] at ht
    exact take_bad a m c l k x (k : Int) w hm rfl (by omega) hk hb ht hx
section
variable {w : World} {B : Nat} {T : TypeId} {p q : List Value} {c : Wc} {ep : Option Addr} {ec : Nat} {base : Nat} {hs : List (Option Addr × Nat)}
theorem below_fin {w' : World} (h : Below w.heap.size w w') : TakeEnd base w B T p q ep hs none (.returned (.bool false)) w' := ⟨Grew2.ofBelow h, rfl⟩
set_option maxRecDepth 20000 in
set_option maxHeartbeats 8000000 in
theorem takeMark_calls (h : CtAt w B T p q c ep ec) (o : Nat) (ho : p.length = o) (a : Option Addr) (n k : Nat) (l : List Nat) (hn : l.length = n) (hm : n ≤ 140737488355328) (hb : BytesAt w a l) :
    Calls Tryz.prog 163 #[.pointer (some ⟨B, o, none⟩), .slice a n k] w (TakeEnd base w B T p q ep hs (markR c l)) := by
  have MR := hide (show markR c l = (match takeE l 0 with
    | .error _ => none
    | .ok (i, k) => match takeE l k with
      | .error _ => none
      | .ok (t, k2) => if k2 < l.length then none else some ⟨i, t, c.ht, c.hv, []⟩) from rfl)
  have HN := hide hn
  have HB := hide hb
  have HC := hide h
  have HL := hide hb.lt
  have HO := hide ho
  have hml : n ≤ maxLen := by simp only [maxLen]; omega
  cases h1 : takeE l 0 with
  | error x =>
    rw [h1] at MR
    dsimp only at MR
    rw [unhide MR]
    have T1 := hide (takeNum_bad a n k l 0 x w hn hml (by omega) hb h1)
    have hx := takeE_pos h1
    have hx0 : ¬ (x : Int) = 0 := by omega
    have hx1 : ((x : Int) == 0) = false := by simp; omega
    clear hb h hn ho h1
    go_enter Tryz.func163, Tryz.ntmps163
    go_wp2_with fail
    go_at_call 185
    refine (unhide T1).mono ?_
    rintro e V1 ⟨rfl, v1⟩
    have FE := hide (below_fin (base := base) (B := B) (T := T) (p := p) (q := q) (ep := ep) (hs := hs) v1)
    clear v1
    go_wp2
    go_ret
    exact unhide FE
  | ok r =>
    obtain ⟨i, k1⟩ := r
    rw [h1] at MR
    dsimp only at MR
    obtain ⟨hk1, hi⟩ := takeE_le h1 hb.lt
    have T1 := hide (takeNum_ok a n k l 0 i k1 w hn hml (by omega) hb h1)
    cases h2 : takeE l k1 with
    | error x =>
      rw [h2] at MR
      dsimp only at MR
      rw [unhide MR]
      have T2 := hide (fun W (b : Below w.heap.size w W) => takeNum_bad a n k l k1 x W hn hml hk1 (hb.later b) h2)
      have hx := takeE_pos h2
      have hx0 : ¬ (x : Int) = 0 := by omega
      have hx1 : ((x : Int) == 0) = false := by simp; omega
      clear hb h hn ho h1 h2
      go_enter Tryz.func163, Tryz.ntmps163
      go_wp2_with fail
      go_at_call 185
      refine (unhide T1).mono ?_
      rintro e V1 ⟨rfl, v1⟩
      have B1 := hide v1
      clear v1
      go_wp2_with fail
      go_at_call 185
      refine (unhide T2 _ (unhide B1)).mono ?_
      rintro e V2 ⟨rfl, v2⟩
      have FE := hide (below_fin (base := base) (B := B) (T := T) (p := p) (q := q) (ep := ep) (hs := hs) ((unhide B1).trans (v2.mono (unhide B1).size)))
      clear v2
      go_wp2
      go_ret
      exact unhide FE
    | ok r2 =>
      obtain ⟨t, k2⟩ := r2
      rw [h2] at MR
      dsimp only at MR
      obtain ⟨hk2, ht⟩ := takeE_le h2 hb.lt
      have T2 := hide (fun W (b : Below w.heap.size w W) => takeNum_ok a n k l k1 t k2 W hn hml hk1 (hb.later b) h2)
      by_cases h3 : k2 < l.length
      · rw [if_pos h3] at MR
        rw [unhide MR]
        have h3' : (k2 : Int) < (n : Int) := by omega
        clear hb h hn ho h1 h2 h3
        go_enter Tryz.func163, Tryz.ntmps163
        go_wp2_with fail
        go_at_call 185
        refine (unhide T1).mono ?_
        rintro e V1 ⟨rfl, v1⟩
        have B1 := hide v1
        clear v1
        go_wp2_with fail
        go_at_call 185
        refine (unhide T2 _ (unhide B1)).mono ?_
        rintro e V2 ⟨rfl, v2⟩
        have FE := hide (below_fin (base := base) (B := B) (T := T) (p := p) (q := q) (ep := ep) (hs := hs) ((unhide B1).trans (v2.mono (unhide B1).size)))
        clear v2
        go_wp2
        go_ret
        exact unhide FE
      · rw [if_neg h3] at MR
        rw [unhide MR]
        have h3' : ¬ (k2 : Int) < (n : Int) := by omega
        clear hb h hn ho h1 h2 h3
        go_enter Tryz.func163, Tryz.ntmps163
        go_wp2_with fail
        go_at_call 185
        refine (unhide T1).mono ?_
        rintro e V1 ⟨rfl, v1⟩
        have B1 := hide v1
        clear v1
        go_wp2_with fail
        go_at_call 185
        refine (unhide T2 _ (unhide B1)).mono ?_
        rintro e V2 ⟨rfl, v2⟩
        have B2 := hide ((unhide B1).trans (v2.mono (unhide B1).size))
        have CT := hide ((unhide HC).later (unhide B2))
        clear v2
        obtain ⟨⟨c0, c1, c2, c3, c4⟩, fz⟩ := (unhide CT).cells o (unhide HO)
        have f0 := fz o
        have f1 := fz (o + 1)
        have f4 := fz (o + 4)
        have S1 := (unhide CT).set o 0 (unhide HO) ⟨i, c.bt, c.ht, c.hv, c.es⟩ ep ec (.int .i64 (i : Int)) rfl (by omega)
        have S2 := S1.set o 1 (unhide HO) ⟨i, t, c.ht, c.hv, c.es⟩ ep ec (.int .i64 (t : Int)) rfl (by omega)
        have S3 := S2.set o 4 (unhide HO) ⟨i, t, c.ht, c.hv, []⟩ none 0 (.slice none 0 0) rfl (by omega)
        have FE := hide (show TakeEnd base w B T p q ep hs (some ⟨i, t, c.ht, c.hv, []⟩) (.returned (.bool true)) (((V2.setCell ⟨B, o + 0, none⟩ (.int .i64 (i : Int))).setCell ⟨B, o + 1, none⟩ (.int .i64 (t : Int))).setCell ⟨B, o + 4, none⟩ (.slice none 0 0)) from by
          refine ⟨⟨(unhide B2).os, (unhide B2).tape, (unhide B2).output, by have := (unhide B2).size; simp [World.setCell]; omega, fun j h1 h2 _ => ?_⟩, rfl, none, 0, [], S3, OwnL.ofNil _ _, fun g hg => ?_⟩
          · exact (heap_setCell_other _ ⟨B, o + 4, none⟩ j _ h2).trans ((heap_setCell_other _ ⟨B, o + 1, none⟩ j _ h2).trans ((heap_setCell_other _ ⟨B, o + 0, none⟩ j _ h2).trans ((unhide B2).block j h1)))
          · rcases hg with hg | ⟨x, hx, _⟩
            · cases hg
            · simp at hx)
        rw [Nat.add_zero] at FE
        clear S1 S2 S3 fz
        go_wp2
        go_ret
        exact unhide FE
end
end Go.Proofs.YtijcpmbfhfppmaaGreatDoor
