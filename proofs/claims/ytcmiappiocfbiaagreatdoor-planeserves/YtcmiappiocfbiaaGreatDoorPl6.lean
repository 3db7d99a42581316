/- Plane: the route of a host and a path. -/
import Derived.Test.YtcmiappiocfbiaaGreatDoorPl5
import Derived.Laws.ResultCell
import Derived.Laws.Rows
namespace Go.Proofs.YtcmiappiocfbiaaGreatDoor
open Go.ChangeShapes Go.WideShapes Go.ChangeAt Go.RowKit

/-- A route: host, prefix, pool. -/
structure Rt where
  h : ByteArray
  p : ByteArray
  l : ByteArray
def rtVal (r : Rt) : Value := .agg #[.string r.h, .string r.p, .string r.l]
def rt0 : Rt := ⟨⟨#[]⟩, ⟨#[]⟩, ⟨#[]⟩⟩
structure RtsAt (w : World) (a : Option Addr) (l : List Rt) : Prop where
  sz : ∀ r ∈ l, r.h.size ≤ maxLen ∧ r.p.size ≤ maxLen ∧ r.l.size ≤ maxLen
  cell : ∀ i (hi : i < l.length), ∃ b off, a = some ⟨b, off, none⟩ ∧ w.cell? ⟨b, off + i * 3, none⟩ = some (.string l[i].h) ∧ w.cell? ⟨b, off + i * 3 + 1, none⟩ = some (.string l[i].p) ∧ w.cell? ⟨b, off + i * 3 + 2, none⟩ = some (.string l[i].l)
theorem RtsAt.later {w w' : World} {a : Option Addr} {l : List Rt} (h : RtsAt w a l) (hb : Below w.heap.size w w') : RtsAt w' a l :=
  ⟨h.sz, fun i hi => by obtain ⟨b, off, e, h1, h2, h3⟩ := h.cell i hi; exact ⟨b, off, e, cell_later hb h1, cell_later hb h2, cell_later hb h3⟩⟩
def okR (h q : ByteArray) (r : Rt) : Bool := (r.h.toList == h.toList) && fitsL r.p.data.toList q.data.toList
/-- The first of the longest that fit, of the first j routes. -/
def bestN (h q : ByteArray) (l : List Rt) : Nat → Option Nat
  | 0 => none
  | j + 1 => if okR h q (l.getD j rt0) = true then (match bestN h q l j with
      | none => some j
      | some b => if (l.getD b rt0).p.size < (l.getD j rt0).p.size then some j else some b) else bestN h q l j
theorem bestN_lt (h q : ByteArray) (l : List Rt) : ∀ j b, bestN h q l j = some b → b < j
  | 0, b, e => by cases e
  | j + 1, b, e => by
    unfold bestN at e
    have ih := bestN_lt h q l j
    split at e
    · split at e
      · cases e; omega
      · rename_i b' hb
        have := ih b' hb
        split at e <;> cases e <;> omega
    · have := ih b e; omega
theorem rt_at (l : List Rt) (j : Nat) (hj : j < l.length) : l.getD j rt0 = l[j] := by
  rw [List.getD_eq_getElem?_getD, List.getElem?_eq_getElem hj]; rfl
theorem fcell0 {w : World} {j : Nat} {cs : Array Value} {T : TypeId} (h : w.heap[j]? = some (.cells cs T (0, 0))) (f : Nat) (v : Value) (hv : cs[f]? = some v) : w.cell? ⟨j, f, none⟩ = some v := by
  rw [cell_of_row _ _ _ _ _ _ h, hv]
theorem grown_set0 (w : World) (j k : Nat) (v : Value) : w.grownBy (w.setCell ⟨j, k, none⟩ v) (some j) :=
  ⟨rfl, rfl, rfl, by simp [World.setCell], fun i _ hne => heap_setCell_other w ⟨j, k, none⟩ i v (fun e => hne (by rw [e]))⟩
theorem set3 {w : World} {g : Nat} {a b c x y z : Value} {T : TypeId} (h : w.heap[g]? = some (.cells #[a, b, c] T (0, 0))) : (((w.setCell ⟨g, 0, none⟩ x).setCell ⟨g, 1, none⟩ y).setCell ⟨g, 2, none⟩ z).heap[g]? = some (.cells #[x, y, z] T (0, 0)) ∧ w.grownBy (((w.setCell ⟨g, 0, none⟩ x).setCell ⟨g, 1, none⟩ y).setCell ⟨g, 2, none⟩ z) (some g) := by
  have h1 := heap_setCell_same w g 0 #[a, b, c] T x h
  have h2 := heap_setCell_same _ g 1 _ T y h1
  have h3 := heap_setCell_same _ g 2 _ T z h2
  exact ⟨h3, ((grown_set0 w g 0 x).trans (grown_set0 _ g 1 y)).trans (grown_set0 _ g 2 z)⟩
/-- What Find answers. -/
def findV (l : List Rt) : Option Nat → Value
  | some b => .tuple #[rtVal (l.getD b rt0), .bool true]
  | none => .tuple #[rtVal rt0, .bool false]
def bestI : Option Nat → Int
  | some b => (b : Int)
  | none => -1
section
variable {w : World} {a : Option Addr} {l : List Rt}
set_option maxRecDepth 20000 in
set_option maxHeartbeats 8000000 in
theorem find_calls (h : RtsAt w a l) (n c : Nat) (hn : l.length = n) (hx : n ≤ maxLen) (ver : Int) (pa : Option Addr) (pn pc : Nat) (ho q : ByteArray) :
    Calls Tryz.prog 26 #[.agg #[.int .i64 ver, .slice a n c, .slice pa pn pc], .string ho, .string q] w fun e w' => e = .returned (findV l (bestN ho q l n)) ∧ Below w.heap.size w w' := by
  have H := hide h
  have HN := hide hn
  simp only [maxLen] at hx
  clear h hn
  have b1 : Below w.heap.size w (w.alloc (.cells #[.int .i64 ver, .slice a n c, .slice pa pn pc] 28)) := (Below.refl _ _).alloc (Nat.le_refl _) _
  have b2 := b1.alloc b1.size (.cells #[.string ⟨#[]⟩, .string ⟨#[]⟩, .string ⟨#[]⟩] 65)
  have X1 := hide (show ((w.alloc (.cells #[.int .i64 ver, .slice a n c, .slice pa pn pc] 28)).alloc (.cells #[.string ⟨#[]⟩, .string ⟨#[]⟩, .string ⟨#[]⟩] 65)).heap[w.heap.size]? = some (.cells #[.int .i64 ver, .slice a n c, .slice pa pn pc] 28 (0, 0)) by rw [Below.heap_alloc _ _ _ (by simp)]; exact heap_new _ _)
  have B2 := hide b2
  have s1 : (w.alloc (.cells #[.int .i64 ver, .slice a n c, .slice pa pn pc] 28)).heap.size = w.heap.size + 1 := by simp
  have X2 := hide (show ((w.alloc (.cells #[.int .i64 ver, .slice a n c, .slice pa pn pc] 28)).alloc (.cells #[.string ⟨#[]⟩, .string ⟨#[]⟩, .string ⟨#[]⟩] 65)).heap[w.heap.size + 1]? = some (.cells #[.string ⟨#[]⟩, .string ⟨#[]⟩, .string ⟨#[]⟩] 65 (0, 0)) by rw [← s1]; exact heap_new _ _)
  clear b1 b2 s1
  go_enter Tryz.func26, Tryz.ntmps26
  go_wp2_with fail
  generalize ((w.alloc (.cells #[.int .i64 ver, .slice a n c, .slice pa pn pc] 28)).alloc (.cells #[.string ⟨#[]⟩, .string ⟨#[]⟩, .string ⟨#[]⟩] 65)) = W2 at *
  have k1 := fcell0 (unhide X1) 1 _ rfl
  have r0 := fcell0 (unhide X2) 0 _ rfl
  have r1 := fcell0 (unhide X2) 1 _ rfl
  have r2 := fcell0 (unhide X2) 2 _ rfl
  have FZ := hide (show ∀ (W : World) (i : Nat), Below W2.heap.size W2 W → W.frozen? ⟨w.heap.size + 1, i, none⟩ = false from fun W i hb => by simp [World.frozen?, later_block hb (unhide X2)])
  go_loopw [8, 14] (fun t i wr => ∃ j : Nat, j ≤ n ∧ i = .int .i64 (j : Int) ∧ t = .int .i64 (bestI (bestN ho q l j)) ∧ Hid (Below W2.heap.size W2 wr)) (fun _ i _ => n - (intOf i).toNat)
  case atStart => exact ⟨0, by omega, rfl, rfl, hide (Below.refl _ _)⟩
  case round =>
    obtain ⟨j, hj, rfl, rfl, B⟩ := hrel
    have F := hide ((unhide B2).trans ((unhide B).mono (unhide B2).size))
    have c1 := cell_later (unhide B) k1
    have z0 := cell_later (unhide B) r0
    have z1 := cell_later (unhide B) r1
    have z2 := cell_later (unhide B) r2
    have f0 := unhide FZ wr 0 (unhide B)
    have f1 := unhide FZ wr 1 (unhide B)
    have f2 := unhide FZ wr 2 (unhide B)
    by_cases hjn : j < n
    · have y0 : (0 : Int) ≤ (j : Int) := by omega
      have y1 : (j : Int) < (n : Int) := by omega
      have hjl : j < l.length := by rw [unhide HN]; exact hjn
      obtain ⟨b, off, rfl, q0, q1, q2⟩ := (unhide H).cell j hjl
      have p0 := cell_later (unhide F) q0
      have p1 := cell_later (unhide F) q1
      have p2 := cell_later (unhide F) q2
      have hsz := (unhide H).sz _ (List.getElem_mem hjl)
      have RA := hide (rt_at l j hjl)
      have HB := hide (show bestN ho q l (j + 1) = if okR ho q l[j] = true then (match bestN ho q l j with
        | none => some j
        | some b => if (l.getD b rt0).p.size < l[j].p.size then some j else some b) else bestN ho q l j by rw [← unhide RA]; rfl)
      have PB := hide (show ∀ b' : Nat, bestN ho q l j = some b' → b' < n ∧ w.cell? ⟨b, off + b' * 3 + 1, none⟩ = some (.string (l.getD b' rt0).p) from fun b' hb' => by
        have hlt := bestN_lt ho q l j b' hb'
        have hbl : b' < l.length := by omega
        obtain ⟨bb, oo, e, _, q4, _⟩ := (unhide H).cell b' hbl
        simp only [Option.some.injEq, Addr.mk.injEq, and_true] at e
        obtain ⟨rfl, rfl⟩ := e
        rw [rt_at l b' hbl]
        exact ⟨by omega, q4⟩)
      generalize l[j] = r at *
      obtain ⟨rh, rp, rl⟩ := r
      simp only at p0 p1 p2 hsz HB
      have b3 : Below W2.heap.size W2 (wr.alloc (.cells #[.string rh, .string rp, .string rl] 65)) := (unhide B).alloc (unhide B).size _
      have bl : Below wr.heap.size wr (wr.alloc (.cells #[.string rh, .string rp, .string rl] 65)) := (Below.refl _ _).alloc (Nat.le_refl _) _
      have B3 := hide b3
      have BD := hide (show ∀ k, Below W2.heap.size W2 ((wr.alloc (.cells #[.string rh, .string rp, .string rl] 65)).drewN k) from fun k => ⟨b3.os, b3.tape, b3.output, b3.size, b3.block⟩)
      have d1 := cell_later bl c1
      have e1 := fcell0 (heap_new wr (.cells #[.string rh, .string rp, .string rl] 65)) 1 _ rfl
      have FT := hide (fits_calls rp q hsz.2.1 (wr.alloc (.cells #[.string rh, .string rp, .string rl] 65)))
      have FB := hide (fun (b' : Nat) (hb' : bestN ho q l j = some b') => (show b' < n ∧ (wr.alloc (.cells #[.string rh, .string rp, .string rl] 65)).cell? ⟨b, off + b' * 3 + 1, none⟩ = some (.string (l.getD b' rt0).p) from ⟨(unhide PB b' hb').1, cell_later bl (cell_later (unhide F) (unhide PB b' hb').2)⟩))
      have OK := hide (show okR ho q ⟨rh, rp, rl⟩ = ((rh.toList == ho.toList) && fitsL rp.data.toList q.data.toList) from rfl)
      clear q0 q1 q2 b3 bl hsz PB RA
      cases hh : (rh.toList == ho.toList) with
      | false =>
        have E := hide (show bestN ho q l (j + 1) = bestN ho q l j by rw [unhide HB, if_neg (by rw [unhide OK, hh]; simp)])
        generalize bestN ho q l j = bo at *
        go_wp2
        exact ⟨⟨j + 1, by omega, by go_num, by rw [unhide E], unhide B3⟩, by simp [intOf]; omega⟩
      | true =>
        cases hf : fitsL rp.data.toList q.data.toList with
        | false =>
          rw [hf] at FT
          have E := hide (show bestN ho q l (j + 1) = bestN ho q l j by rw [unhide HB, if_neg (by rw [unhide OK, hh, hf]; decide)])
          generalize bestN ho q l j = bo at *
          go_wp2_with (go_at_call 49; refine (unhide FT).mono ?_; rintro e w' ⟨rfl, rfl⟩)
          exact ⟨⟨j + 1, by omega, by go_num, by rw [unhide E], unhide B3⟩, by simp [intOf]; omega⟩
        | true =>
          rw [hf] at FT
          have E0 := hide (show bestN ho q l (j + 1) = (match bestN ho q l j with
            | none => some j
            | some b => if (l.getD b rt0).p.size < rp.size then some j else some b) by rw [unhide HB, if_pos (by rw [unhide OK, hh, hf]; rfl)])
          cases hb : bestN ho q l j with
          | none =>
            rw [hb] at E0
            simp only [bestI]
            clear hb HB FB
            go_wp2_with (go_at_call 49; refine (unhide FT).mono ?_; rintro e w' ⟨rfl, rfl⟩)
            go_quiet (fail)
            go_wp2
            exact ⟨⟨j + 1, by omega, by go_num, by rw [unhide E0], unhide BD _⟩, by simp [intOf]; omega⟩
          | some b' =>
            rw [hb] at E0
            obtain ⟨hbn, g1⟩ := unhide FB b' hb
            simp only [bestI] at E0 ⊢
            clear hb HB FB
            generalize (l.getD b' rt0).p = bp at *
            have v0 : ¬ ((b' : Int) < 0) := by omega
            have v1 : (0 : Int) ≤ (b' : Int) := by omega
            have v2 : (b' : Int) < (n : Int) := by omega
            have v3 : decide ((b' : Int) < 0) = false := decide_eq_false v0
            by_cases hl : bp.size < rp.size
            · have v4 : (bp.size : Int) < (rp.size : Int) := by omega
              rw [if_pos hl] at E0
              clear hl
              go_wp2_with (go_at_call 49; refine (unhide FT).mono ?_; rintro e w' ⟨rfl, rfl⟩)
              go_quiet (fail)
              go_wp2
              exact ⟨⟨j + 1, by omega, by go_num, by rw [unhide E0], unhide BD _⟩, by simp [intOf]; omega⟩
            · have v4 : ¬ (bp.size : Int) < (rp.size : Int) := by omega
              rw [if_neg hl] at E0
              clear hl
              go_wp2_with (go_at_call 49; refine (unhide FT).mono ?_; rintro e w' ⟨rfl, rfl⟩)
              go_quiet (fail)
              go_wp2
              exact ⟨⟨j + 1, by omega, by go_num, by rw [unhide E0], unhide BD _⟩, by simp [intOf]; omega⟩
    · obtain rfl : j = n := by omega
      have hjj : ¬ (j : Int) < (j : Int) := by omega
      have SE := hide (show ∀ x y z : Value, (((wr.setCell ⟨w.heap.size + 1, 0, none⟩ x).setCell ⟨w.heap.size + 1, 1, none⟩ y).setCell ⟨w.heap.size + 1, 2, none⟩ z).heap[w.heap.size + 1]? = some (.cells #[x, y, z] 65 (0, 0)) ∧ Below w.heap.size w (((wr.setCell ⟨w.heap.size + 1, 0, none⟩ x).setCell ⟨w.heap.size + 1, 1, none⟩ y).setCell ⟨w.heap.size + 1, 2, none⟩ z) from fun x y z => by
        obtain ⟨a1, a2⟩ := set3 (x := x) (y := y) (z := z) (later_block (unhide B) (unhide X2))
        exact ⟨a1, (unhide F).grown a2 (unhide F).size (fun g hg => by have := Option.some.inj hg; omega)⟩)
      cases hb : bestN ho q l j with
      | none =>
        simp only [bestI]
        go_wp2
        obtain ⟨a1, a2⟩ := unhide SE (.string ⟨#[]⟩) (.string ⟨#[]⟩) (.string ⟨#[]⟩)
        generalize (((wr.setCell ⟨w.heap.size + 1, 0, none⟩ (.string ⟨#[]⟩)).setCell ⟨w.heap.size + 1, 1, none⟩ (.string ⟨#[]⟩)).setCell ⟨w.heap.size + 1, 2, none⟩ (.string ⟨#[]⟩)) = W9 at *
        have g0 := fcell0 a1 0 _ rfl
        have g1 := fcell0 a1 1 _ rfl
        have g2 := fcell0 a1 2 _ rfl
        refine bodyPost_ret (v := findV l none) ?_ rfl ⟨rfl, a2⟩
        rw [results_cell_tmp rfl]
        go_simp
        rfl
      | some b' =>
        have hlt := bestN_lt ho q l j b' hb
        have hbl : b' < l.length := by rw [unhide HN]; exact hlt
        obtain ⟨b, off, rfl, q0, q1, q2⟩ := (unhide H).cell b' hbl
        have p0 := cell_later (unhide F) q0
        have p1 := cell_later (unhide F) q1
        have p2 := cell_later (unhide F) q2
        have EV := hide (show findV l (some b') = .tuple #[.agg #[.string l[b'].h, .string l[b'].p, .string l[b'].l], .bool true] by rw [← rt_at l b' hbl]; rfl)
        generalize l[b'] = r at *
        obtain ⟨rh, rp, rl⟩ := r
        simp only at p0 p1 p2 EV
        have v0 : ¬ ((b' : Int) < 0) := by omega
        have v1 : (0 : Int) ≤ (b' : Int) := by omega
        have v2 : (b' : Int) < (j : Int) := by omega
        simp only [bestI]
        clear q0 q1 q2
        go_wp2
        obtain ⟨a1, a2⟩ := unhide SE (.string rh) (.string rp) (.string rl)
        generalize (((wr.setCell ⟨w.heap.size + 1, 0, none⟩ (.string rh)).setCell ⟨w.heap.size + 1, 1, none⟩ (.string rp)).setCell ⟨w.heap.size + 1, 2, none⟩ (.string rl)) = W9 at *
        have g0 := fcell0 a1 0 _ rfl
        have g1 := fcell0 a1 1 _ rfl
        have g2 := fcell0 a1 2 _ rfl
        refine bodyPost_ret (v := findV l (some b')) ?_ rfl ⟨rfl, a2⟩
        rw [results_cell_tmp rfl, unhide EV]
        go_simp
end
end Go.Proofs.YtcmiappiocfbiaaGreatDoor
