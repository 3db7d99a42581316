/- Disk: a change's units; what it makes of bytes. -/
import Derived.Test.YtijcpmbfhfppmaaGreatDoorDk5
namespace Go.Proofs.YtijcpmbfhfppmaaGreatDoor
open Go.ChangeShapes Go.WideShapes Go.ChangeAt Go.RowKit

def unitsC (c : Chg) : Nat := if c.1 then 1 else c.2.2.length
def ontoC (c : Chg) (l : List Nat) (u : Nat) : List Nat := if c.1 then l.take c.2.1 else overL l c.2.1 (c.2.2.take u)
def chAgg (x : ChH) : Value := .agg #[.bool x.1.1, .int .i64 (x.1.2.1 : Int), .slice x.2.1 x.1.2.2.length x.2.2]
theorem units_calls (x : ChH) (w : World) : Calls Tryz.prog 109 #[chAgg x] w fun e w' => e = .returned (.int .i64 (unitsC x.1 : Int)) ∧ Below w.heap.size w w' := by
  obtain ⟨⟨ic, k, o⟩, p, c⟩ := x
  have bA := hide (show Below w.heap.size w (w.alloc (.cells #[.bool ic, .int .i64 (k : Int), .slice p o.length c] 152)) from (Below.refl _ _).alloc (Nat.le_refl _) _)
  have z0 := fcell (heap_new w (.cells #[.bool ic, .int .i64 (k : Int), .slice p o.length c] 152)) 0 (.bool ic) (by simp)
  have z2 := fcell (heap_new w (.cells #[.bool ic, .int .i64 (k : Int), .slice p o.length c] 152)) 2 (.slice p o.length c) (by simp)
  unfold chAgg
  simp only
  cases ic with
  | true =>
    go_enter Tryz.func109, Tryz.ntmps109
    go_wp2
    go_ret
    exact ⟨rfl, unhide bA⟩
  | false =>
    go_enter Tryz.func109, Tryz.ntmps109
    go_wp2
    go_ret
    exact ⟨rfl, unhide bA⟩
theorem Bx.grewNil {base : Nat} {w w' : World} {sp : Option Addr} {c : Nat} {l : List Nat} (h : Bx base w sp c l) (hb : Below w.heap.size w w') : Bx base w' sp c l ∧ Grew w sp w' sp := ⟨h.later hb, ⟨hb.os, hb.tape, hb.output, hb.size, fun i hi _ => hb.block i hi⟩, fun _ hg => .inl hg⟩
set_option maxRecDepth 20000 in
set_option maxHeartbeats 40000000 in
theorem onto_calls {b2 : Nat} (base : Nat) (w : World) (x : ChH) (sp : Option Addr) (sc : Nat) (l : List Nat) (u : Nat) (hX : Bx base w sp sc l) (hD : Bx b2 w x.2.1 x.2.2 x.1.2.2) (hk : x.1.2.1 ≤ l.length) (hu : x.1.1 = false → u ≤ x.1.2.2.length) (hne : ∀ g, blk x.2.1 = some g → blk sp ≠ some g) (hsz : l.length + x.1.2.2.length ≤ 140737488355328) (hbs : base ≤ w.heap.size) :
    Calls Tryz.prog 110 #[chAgg x, .slice sp l.length sc, .int .i64 (u : Int)] w fun e w' => ∃ sp' c', e = .returned (.slice sp' (ontoC x.1 l u).length c') ∧ Bx base w' sp' c' (ontoC x.1 l u) ∧ Grew w sp w' sp' := by
  obtain ⟨⟨ic, k, o⟩, p, c⟩ := x
  simp only at hD hk hu hne hsz
  have ba : Below w.heap.size w (w.alloc (.cells #[.bool ic, .int .i64 (k : Int), .slice p o.length c] 152)) := (Below.refl _ _).alloc (Nat.le_refl _) _
  have z0 := fcell (heap_new w (.cells #[.bool ic, .int .i64 (k : Int), .slice p o.length c] 152)) 0 (.bool ic) (by simp)
  have z1 := fcell (heap_new w (.cells #[.bool ic, .int .i64 (k : Int), .slice p o.length c] 152)) 1 (.int .i64 (k : Int)) (by simp)
  have z2 := fcell (heap_new w (.cells #[.bool ic, .int .i64 (k : Int), .slice p o.length c] 152)) 2 (.slice p o.length c) (by simp)
  unfold chAgg
  simp only
  cases ic with
  | true =>
    have hs := run_slice_h8 sp l.length sc k (Nat.le_trans hk hX.cap.1)
    rw [hX.slp0] at hs
    have X1 := hide ((hX.cut k sc hk (Nat.le_trans hk hX.cap.1) (Nat.le_refl _)).grewNil ba)
    have E1 := hide (show (ontoC (true, k, o) l u).length = k from by simp [ontoC]; omega)
    clear hX hD hk hu hne hsz hbs ba
    generalize l.length = m at *
    go_enter Tryz.func110, Tryz.ntmps110
    go_wp2
    go_ret
    exact ⟨sp, sc, by rw [unhide E1]; rfl, (unhide X1).1, (unhide X1).2⟩
  | false =>
    have hu' := hu rfl
    have hs := run_slice_h8 p o.length c u (Nat.le_trans hu' hD.cap.1)
    rw [hD.slp0] at hs
    have hX1 := (hX.grewNil ba).1
    have hD1 := (hD.grewNil ba).1
    have HT := hide (show (o.take u).length = u by rw [List.length_take]; omega)
    have B1 := hide (hD1.bytes.take u)
    have Z1 := hide hD1.nil0
    have C1 := hide (Nat.le_trans hu' hD1.cap.1)
    have X1 := hide hX1
    have N1 := hide (show ∀ b off, p = some ⟨b, off, none⟩ → blk sp ≠ some b from fun b off e hb => hne b (by rw [e]; rfl) hb)
    have S1 := hide (show l.length + u ≤ 140737488355328 by omega)
    have S2 := hide (Nat.le_trans hbs ba.size)
    have HK := hide hk
    have G1 := hide (hX.grewNil ba).2
    clear hX hD hk hu hne hsz hbs ba hX1 hD1 hu'
    go_enter Tryz.func110, Tryz.ntmps110
    go_wp2
    go_region_law (go_simp; go_at_call 114; refine (laid_calls base sp sc l l.length k p u c (o.take u) _ rfl (unhide HK) (unhide HT) (by first | exact unhide B1 | exact (unhide B1).drew) (unhide Z1) (unhide C1) (by first | exact unhide X1 | exact ⟨(unhide X1).lt, (unhide X1).row⟩) (fun _ => unhide N1) (unhide S1) (by exact unhide S2)).mono ?_; rintro e1 U ⟨sp', c', rfl, hX, hG⟩; have X2 := hide hX; have G2 := hide ((unhide G1).trans (⟨⟨hG.grown.os, hG.grown.tape, hG.grown.output, hG.grown.size, hG.grown.block⟩, hG.lies⟩ : Grew (w.alloc (.cells #[.bool false, .int .i64 (k : Int), .slice p o.length c] 152)) sp U sp')); clear hX hG)
    all_goals
      go_wp2
      go_ret
      exact ⟨sp', c', rfl, unhide X2, unhide G2⟩
end Go.Proofs.YtijcpmbfhfppmaaGreatDoor
