/- Flight: slices.DeleteFunc. -/
import Derived.Test.YticemhnfcelpmaaFl7
namespace Go.Proofs.Yticemhnfcelpmaa
open Go.ChangeShapes Go.WideShapes Go.ChangeAt Go.RowKit Go.Maps

/-- Those that are not picked. -/
def keep (pick : Pkt → Bool) (xs : List (Pkt × Hdl)) : List (Pkt × Hdl) := xs.filter fun x => !pick x.1
theorem keep_all {pick : Pkt → Bool} {xs : List (Pkt × Hdl)} (h : ∀ x ∈ xs, pick x.1 = false) : keep pick xs = xs := by
  unfold keep
  rw [List.filter_eq_self]
  intro x hx
  simp [h x hx]
theorem keep_yes {pick : Pkt → Bool} {xs : List (Pkt × Hdl)} (j : Nat) (hj : j < xs.length) (hp : pick xs[j].1 = true) : keep pick (xs.take (j + 1)) = keep pick (xs.take j) := by
  unfold keep
  rw [List.take_succ_eq_append_getElem hj, List.filter_append]
  simp only [List.filter_cons, List.filter_nil, hp, Bool.not_true, Bool.false_eq_true, if_false, List.append_nil]
theorem keep_no {pick : Pkt → Bool} {xs : List (Pkt × Hdl)} (j : Nat) (hj : j < xs.length) (hp : pick xs[j].1 = false) : keep pick (xs.take (j + 1)) = keep pick (xs.take j) ++ [xs[j]] := by
  unfold keep
  rw [List.take_succ_eq_append_getElem hj, List.filter_append]
  simp only [List.filter_cons, List.filter_nil, hp, Bool.not_false, if_true]
theorem keep_len (pick : Pkt → Bool) (xs : List (Pkt × Hdl)) : (keep pick xs).length ≤ xs.length := List.length_filter_le _ _
/-- Packets as they lie in a list of cells, from a place on. -/
def LiesIn (cur : List Value) (ys : List (Pkt × Hdl)) : Prop := ∀ q (hq : q < ys.length) f, f < 4 → cur[q * 4 + f]? = (pkRow ys[q])[f]?
def RestIn (cur : List Value) (xs : List (Pkt × Hdl)) (j : Nat) : Prop := ∀ q (hq : q < xs.length) f, j ≤ q → f < 4 → cur[q * 4 + f]? = (pkRow xs[q])[f]?
theorem LiesIn.take {cur : List Value} {ys : List (Pkt × Hdl)} (h : LiesIn cur ys) (hl : ys.length * 4 ≤ cur.length) : cur.take (ys.length * 4) = rowsP ys := by
  apply List.ext_getElem?
  intro k
  by_cases hk : k < ys.length * 4
  · rw [List.getElem?_take, if_pos hk]
    have h1 := h (k / 4) (by omega) (k % 4) (Nat.mod_lt _ (by decide))
    have h2 := rowsP_get ys (k / 4) (k % 4) (by omega) (Nat.mod_lt _ (by decide))
    rw [show k / 4 * 4 + k % 4 = k by omega] at h1 h2
    rw [h1, h2]
  · rw [List.getElem?_eq_none (by rw [List.length_take]; omega), List.getElem?_eq_none (by rw [rowsP_length]; omega)]
def set4 (cur : List Value) (i : Nat) (x : Pkt × Hdl) : List Value := (((cur.set (i * 4) (.int .i64 x.1.1)).set (i * 4 + 1) (.int .i64 x.1.2.1)).set (i * 4 + 2) (.int .i64 x.1.2.2.1)).set (i * 4 + 3) (.slice x.2.1 x.1.2.2.2.length x.2.2)
theorem set4_length (cur : List Value) (i : Nat) (x : Pkt × Hdl) : (set4 cur i x).length = cur.length := by simp [set4]
theorem set4_same (cur : List Value) (i : Nat) (x : Pkt × Hdl) (h : i * 4 + 4 ≤ cur.length) (f : Nat) (hf : f < 4) : (set4 cur i x)[i * 4 + f]? = (pkRow x)[f]? := by
  unfold set4
  match f, hf with
  | 0, _ =>
    rw [List.getElem?_set_ne (by omega), List.getElem?_set_ne (by omega), List.getElem?_set_ne (by omega), Nat.add_zero, List.getElem?_set_self (by omega)]; rfl
  | 1, _ =>
    rw [List.getElem?_set_ne (by omega), List.getElem?_set_ne (by omega), List.getElem?_set_self (by simp; omega)]; rfl
  | 2, _ =>
    rw [List.getElem?_set_ne (by omega), List.getElem?_set_self (by simp; omega)]; rfl
  | 3, _ =>
    rw [List.getElem?_set_self (by simp; omega)]; rfl
theorem set4_other (cur : List Value) (i : Nat) (x : Pkt × Hdl) (q f : Nat) (hf : f < 4) (hq : q ≠ i) : (set4 cur i x)[q * 4 + f]? = cur[q * 4 + f]? := by
  unfold set4
  rw [List.getElem?_set_ne (by omega), List.getElem?_set_ne (by omega), List.getElem?_set_ne (by omega), List.getElem?_set_ne (by omega)]
theorem LiesIn.snoc {cur : List Value} {ys : List (Pkt × Hdl)} (h : LiesIn cur ys) (x : Pkt × Hdl) (hl : ys.length * 4 + 4 ≤ cur.length) : LiesIn (set4 cur ys.length x) (ys ++ [x]) := by
  intro q hq f hf
  rw [List.length_append] at hq
  simp only [List.length_cons, List.length_nil] at hq
  by_cases e : q = ys.length
  · subst e
    rw [set4_same cur _ x hl f hf]
    simp
  · rw [set4_other cur _ x q f hf e, h q (by omega) f hf, List.getElem_append_left (by omega)]
theorem RestIn.later {cur : List Value} {xs : List (Pkt × Hdl)} {j : Nat} (h : RestIn cur xs j) (i : Nat) (x : Pkt × Hdl) (hi : i ≤ j) : RestIn (set4 cur i x) xs (j + 1) := by
  intro q hq f hj hf
  rw [set4_other cur i x q f hf (by omega)]
  exact h q hq f (by omega) hf
theorem elemP : Try.prog.underlying 25 = some (.slice (Try.prog.elem 25)) := by kernel_rfl
theorem sizeOfP (u : World) : (sizeOf (Try.prog.elem 25)).run Try.prog u = .ok 4 u := by kernel_rfl
theorem run_slice_lP (g len cap lo : Nat) (h1 : lo < len) (h2 : len ≤ cap) (u : World) :
    (Instr.slice 25 (.slice (some ⟨g, 0, none⟩) len cap) (some (.int .i64 (lo : Int))) none none).run Try.prog u = .ok (.slice (some ⟨g, lo * 4, none⟩) (len - lo) (cap - lo)) u := by
  rw [run_slice_l (w := u) 25 _ len cap elemP .i64 (lo : Int) (by omega) (by omega), sizeOfP]
  have : ¬ cap = lo := by omega
  simp [Result.andThen, sliced, this, Addr.add_lit]
theorem run_slice_hP (g len cap hi : Nat) (h2 : hi ≤ cap) (u : World) :
    (Instr.slice 25 (.slice (some ⟨g, 0, none⟩) len cap) none (some (.int .i64 (hi : Int))) none).run Try.prog u = .ok (.slice (some ⟨g, 0, none⟩) hi cap) u := by
  rw [run_slice_h (w := u) 25 _ len cap elemP .i64 (hi : Int) (by omega) (by omega), sizeOfP]
  simp [Result.andThen, sliced, Addr.add_lit]
theorem packet_cells {w : World} {B : Nat} {x : Pkt × Hdl} (h : w.heap[B]? = some (.cells (pkRow x).toArray 35 (0, 0))) : w.cell? ⟨B, 0, none⟩ = some (.int .i64 x.1.1) ∧ w.cell? ⟨B, 1, none⟩ = some (.int .i64 x.1.2.1) ∧ w.cell? ⟨B, 2, none⟩ = some (.int .i64 x.1.2.2.1) ∧ w.cell? ⟨B, 3, none⟩ = some (.slice x.2.1 x.1.2.2.2.length x.2.2) :=
  ⟨box_cell h 0 _ rfl, box_cell h 1 _ rfl, box_cell h 2 _ rfl, box_cell h 3 _ rfl⟩
theorem rest_cells {w : World} {g : Nat} {cur : List Value} {xs : List (Pkt × Hdl)} {j : Nat} (h : w.heap[g]? = some (.cells cur.toArray 35 (0, 0))) (hr : RestIn cur xs j) (hj : j < xs.length) : w.cell? ⟨g, j * 4, none⟩ = some (.int .i64 xs[j].1.1) ∧ w.cell? ⟨g, j * 4 + 1, none⟩ = some (.int .i64 xs[j].1.2.1) ∧ w.cell? ⟨g, j * 4 + 2, none⟩ = some (.int .i64 xs[j].1.2.2.1) ∧ w.cell? ⟨g, j * 4 + 3, none⟩ = some (.slice xs[j].2.1 xs[j].1.2.2.2.length xs[j].2.2) := by
  have key : ∀ f, f < 4 → w.cell? ⟨g, j * 4 + f, none⟩ = (pkRow xs[j])[f]? := fun f hf => by
    rw [cell_of_row w g _ _ _ _ h, List.getElem?_toArray]
    exact hr j hj f (Nat.le_refl _) hf
  exact ⟨key 0 (by omega), key 1 (by omega), key 2 (by omega), key 3 (by omega)⟩
theorem some_cell {w : World} {g : Nat} {cur : List Value} {T : TypeId} (h : w.heap[g]? = some (.cells cur.toArray T (0, 0))) (k : Nat) (hk : k < cur.length) : ∃ v, w.cell? ⟨g, k, none⟩ = some v :=
  ⟨cur[k], by rw [cell_of_row w g _ _ _ _ h, List.getElem?_toArray, List.getElem?_eq_getElem hk]⟩
set_option maxRecDepth 20000 in
set_option maxHeartbeats 4000000 in
theorem deleteFunc_calls {base top : Nat} {w : World} {sp : Option Addr} {c : Nat} {xs : List (Pkt × Hdl)} (h : OwnP base top w sp c xs) (hx : xs.length ≤ 1000) {K : Nat} {caps : Array Value} {pick : Pkt → Bool} {B : Nat} {ob : Obj} (hK : Picker K caps pick B ob) (hB : w.heap[B]? = some ob) (hBr : blk sp ≠ some B) :
    Calls Try.prog 45 #[.slice sp xs.length c, .func (.func K) #[] caps] w fun e w' => e = .returned (.slice sp (keep pick xs).length c) ∧ OwnP base top w' sp c (keep pick xs) ∧ w.grownBy w' (blk sp) := by
  have H := hide h
  have HK := hide hK
  have HB := hide hB
  have hE := hK.enter
  have HBr := hide hBr
  clear h hK hB hBr
  go_enter Try.func45, Try.ntmps45
  go_wp2_with fail
  refine (indexFunc_calls (unhide H) hx (unhide HK) (unhide HB)).mono ?_
  rintro e W1 ⟨⟨r, rfl, hr⟩, b1⟩
  rcases hr with ⟨rfl, hall⟩ | ⟨i, rfl, hi, hpi, hnone⟩
  · have HA := hide (keep_all hall)
    have B1 := hide b1
    clear hall b1
    go_wp2
    go_ret
    rw [unhide HA]
    exact ⟨rfl, (unhide H).later (unhide B1), grown_below _ (unhide B1)⟩
  · have B1 := hide b1
    have H1 := hide ((unhide H).later b1)
    have K0 := hide (show keep pick (xs.take (i + 1)) = xs.take i by
      rw [keep_yes i hi hpi]
      exact keep_all (fun x hx' => by
        obtain ⟨q, hq, rfl⟩ := List.getElem_of_mem hx'
        rw [List.length_take] at hq
        rw [List.getElem_take]
        exact hnone q (by omega)))
    have HB1 := hide (later_block b1 (unhide HB))
    clear b1 hpi hnone
    obtain ⟨g, cap, cur0, hv, hbg, hg, hle, hmx, hsz, htk⟩ := (unhide H1).row.2.resolve_left (fun e => by have := e.2; omega)
    simp only [Value.slice.injEq] at hv
    obtain ⟨rfl, _, rfl⟩ := hv
    obtain ⟨cur1⟩ := cur0
    have hsz1 : cur1.length = c * 4 := hsz
    have htk1 : cur1.take (xs.length * 4) = rowsP xs := htk
    have HG := hide hg
    have hrest : ∀ j, RestIn cur1 xs j := fun j q hq f _ hf => by
      have e := rowsP_get xs q f hq hf
      rwa [← htk1, List.getElem?_take, if_pos (by omega)] at e
    have hlies : LiesIn cur1 (keep pick (xs.take (i + 1))) := by
      rw [unhide K0]
      intro q hq f hf
      rw [List.length_take] at hq
      rw [hrest 0 q (by omega) f (Nat.zero_le _) hf, List.getElem_take]
    have HR0 := hide (hrest (i + 1))
    have HL0 := hide hlies
    have K0l := hide (show (keep pick (xs.take (i + 1))).length = i by rw [unhide K0, List.length_take]; omega)
    have HSZ := hide hsz1
    have HBr' := hide (show g ≠ B from fun e => unhide HBr (by rw [e]; rfl))
    have hi' : ((i : Int) == -1) = false := by simp
    have G1 := hide (grown_below (some g) (unhide B1))
    clear hrest hlies hsz1 htk1 hsz htk hg
    go_wp2_with fail
    go_loopw [5, 6] (fun vi vj wr => ∃ (j : Nat) (m : Nat) (cur : List Value), vi = .int .i64 (m : Int) ∧ vj = .int .i64 (j : Int) ∧ j ≤ xs.length ∧ m < j ∧ Hid ((keep pick (xs.take j)).length = m) ∧ Hid (wr.heap[g]? = some (.cells cur.toArray 35 (0, 0))) ∧ Hid (cur.length = c * 4) ∧ Hid (LiesIn cur (keep pick (xs.take j))) ∧ Hid (RestIn cur xs j) ∧ Hid (wr.heap[B]? = some ob) ∧ Hid (w.grownBy wr (some g))) (fun _ vj _ => xs.length - (intOf vj).toNat)
    case atStart => exact ⟨i + 1, i, cur1, rfl, by go_num, by omega, by omega, unhide K0l, unhide HG, unhide HSZ, unhide HL0, unhide HR0, unhide HB1, unhide G1⟩
    case round =>
      obtain ⟨j, m, cur, rfl, rfl, hj, hmj, hm, hg, hsz, hl, hr, hB, G⟩ := hrel
      by_cases hjn : j < xs.length
      · obtain ⟨p0, p1, p2, p3⟩ := rest_cells (unhide hg) (unhide hr) hjn
        have hj0 : (0 : Int) ≤ (j : Int) := by omega
        have hj1 : (j : Int) < (xs.length : Int) := by omega
        have hky := hide (keep_yes (pick := pick) j hjn)
        have hkn := hide (keep_no (pick := pick) j hjn)
        have bA := hide (show Below wr.heap.size wr (wr.alloc (.cells (pkRow xs[j]).toArray 35)) from (Below.refl _ _).alloc (Nat.le_refl _) _)
        have XA := hide (heap_new wr (.cells (pkRow xs[j]).toArray 35))
        obtain ⟨q0, q1, q2, q3⟩ := packet_cells (unhide XA)
        generalize xs[j] = x at *
        have hcl := hide ((unhide HK).call x)
        obtain ⟨⟨id, f, t, l⟩, dp, dc⟩ := x
        simp only [pkRow] at p0 p1 p2 p3 q0 q1 q2 q3 bA XA
        go_wp2_with fail
        refine (unhide hcl _ (later_block (unhide bA) (unhide hB))).mono ?_
        rintro e W2 ⟨rfl, b2⟩
        have B2 := hide (show Below wr.heap.size wr W2 from (unhide bA).trans (b2.mono (unhide bA).size))
        have X2 := hide (later_block b2 (unhide XA))
        have hg2 := hide (later_block (unhide B2) (unhide hg))
        have hB2 := hide (later_block (unhide B2) (unhide hB))
        have G2 := hide (grown_trans (unhide G) (grown_below (some g) (unhide B2)))
        clear b2 p0 p1 p2 p3 q0 q1 q2 q3 bA XA hcl
        cases hp : pick (id, f, t, l)
        · have hk := hide (unhide hkn hp)
          obtain ⟨q0, q1, q2, q3⟩ := packet_cells (x := ((id, f, t, l), (dp, dc))) (unhide X2)
          simp only at q0 q1 q2 q3
          have hml : m * 4 + 4 ≤ cur.length := by have := unhide hsz; omega
          obtain ⟨v0, e0⟩ := some_cell (unhide hg2) (m * 4) (by omega)
          obtain ⟨v1, e1⟩ := some_cell (unhide hg2) (m * 4 + 1) (by omega)
          obtain ⟨v2, e2⟩ := some_cell (unhide hg2) (m * 4 + 2) (by omega)
          obtain ⟨v3, e3⟩ := some_cell (unhide hg2) (m * 4 + 3) (by omega)
          have f0 := box_free (unhide hg2) (m * 4)
          have f1 := box_free (unhide hg2) (m * 4 + 1)
          have f2 := box_free (unhide hg2) (m * 4 + 2)
          have f3 := box_free (unhide hg2) (m * 4 + 3)
          have hm0 : (0 : Int) ≤ (m : Int) := by omega
          have hm1 : (m : Int) < (xs.length : Int) := by omega
          have hg3 := hide (show ((((W2.setCell ⟨g, m * 4, none⟩ (.int .i64 id)).setCell ⟨g, m * 4 + 1, none⟩ (.int .i64 f)).setCell ⟨g, m * 4 + 2, none⟩ (.int .i64 t)).setCell ⟨g, m * 4 + 3, none⟩ (.slice dp l.length dc)).heap[g]? = some (.cells (set4 cur m ((id, f, t, l), (dp, dc))).toArray 35 (0, 0)) from row_set (row_set (row_set (row_set (unhide hg2) _ _) _ _) _ _) _ _)
          have gs := hide (show W2.grownBy ((((W2.setCell ⟨g, m * 4, none⟩ (.int .i64 id)).setCell ⟨g, m * 4 + 1, none⟩ (.int .i64 f)).setCell ⟨g, m * 4 + 2, none⟩ (.int .i64 t)).setCell ⟨g, m * 4 + 3, none⟩ (.slice dp l.length dc)) (some g) from grown_trans (grown_trans (grown_trans (grown_set _ _ _ _) (grown_set _ _ _ _)) (grown_set _ _ _ _)) (grown_set _ _ _ _))
          have hB3 := hide (grown_block (unhide gs) (unhide hB2) (fun e => unhide HBr' e.symm))
          have G3 := hide (grown_trans (unhide G2) (unhide gs))
          have hs3 := hide (show (set4 cur m ((id, f, t, l), (dp, dc))).length = c * 4 by rw [set4_length]; exact unhide hsz)
          have hl3 := hide (show LiesIn (set4 cur m ((id, f, t, l), (dp, dc))) (keep pick (xs.take (j + 1))) by
            rw [unhide hk, ← unhide hm]
            exact (unhide hl).snoc _ (by rw [unhide hm]; exact hml))
          have hr3 := hide ((unhide hr).later m ((id, f, t, l), (dp, dc)) (by omega))
          have hm3 := hide (show (keep pick (xs.take (j + 1))).length = m + 1 by rw [unhide hk, List.length_append, unhide hm]; rfl)
          clear hky hkn hp X2 hg2 hB2 G2 B2 hl hr hg hB G
          go_wp2
          go_roundw
          case rel => exact ⟨j + 1, m + 1, _, by go_num, by go_num, by omega, by omega, unhide hm3, unhide hg3, unhide hs3, unhide hl3, unhide hr3, unhide hB3, unhide G3⟩
          case measure => simp [intOf]; omega
        · have hk := hide (unhide hky hp)
          have hm3 := hide (show (keep pick (xs.take (j + 1))).length = m by rw [unhide hk]; exact unhide hm)
          have hl3 := hide (show LiesIn cur (keep pick (xs.take (j + 1))) by rw [unhide hk]; exact unhide hl)
          have hr3 := hide (show RestIn cur xs (j + 1) from fun q hq f hj hf => unhide hr q hq f (by omega) hf)
          clear hky hkn hp X2 B2 hl hr
          go_wp2
          go_roundw
          case rel => exact ⟨j + 1, m, cur, rfl, by go_num, by omega, by omega, unhide hm3, unhide hg2, unhide hsz, unhide hl3, unhide hr3, unhide hB2, unhide G2⟩
          case measure => simp [intOf]; omega
      · obtain rfl : j = xs.length := by omega
        rw [List.take_length] at hm hl
        have hsl := run_slice_lP g xs.length c m hmj hle
        have hsh := run_slice_hP g xs.length c m (by omega)
        have hcc := unhide hsz
        obtain ⟨Z, hcl⟩ := run_clearP wr 0 g (m * 4) (xs.length - m) (c - m) (by omega) (fun q hq => by
          obtain ⟨v, hv⟩ := some_cell (unhide hg) (m * 4 + q) (by omega)
          rw [hv]; rfl) (fun q _ => box_free (unhide hg) _)
        obtain ⟨⟨cur', h1, h2, h3⟩, h4⟩ := row_setCells g 35 Z (m * 4) wr cur (unhide hg)
        have R1 := hide h1
        have R2 := hide h2
        have R3 := hide h3
        have G4 := hide (grown_trans (unhide G) h4)
        clear h1 h2 h3 h4
        have HF := hide (show OwnP base top (wr.setCells g (m * 4) Z) (some ⟨g, 0, none⟩) c (keep pick xs) from by
          have hle' := keep_len pick xs
          have hcl' : (keep pick xs).length * 4 ≤ cur'.length := by rw [unhide R2, hcc]; omega
          refine ⟨⟨rowsP_length _, .inr ⟨g, c, cur'.toArray, rfl, hbg, unhide R1, by omega, hmx, by rw [List.size_toArray, unhide R2, hcc], ?_⟩⟩, ?_⟩
          · have hL : LiesIn cur' (keep pick xs) := fun q hq f hf => by
              rw [unhide R3 (q * 4 + f) (by have := unhide hm; omega)]
              exact unhide hl q hq f hf
            exact hL.take hcl'
          · exact ((unhide H).dat.grownNe (unhide G4) (fun x hx' g' hg' e => (unhide H).datNe x hx' g' hg' e)).sub List.filter_sublist)
        go_wp2
        go_ret
        rw [unhide hm]
        exact ⟨rfl, unhide HF, unhide G4⟩
end Go.Proofs.Yticemhnfcelpmaa
