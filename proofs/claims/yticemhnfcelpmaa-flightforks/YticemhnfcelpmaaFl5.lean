/- Flight: Send, Double, Now, Tick. -/
import Derived.Test.YticemhnfcelpmaaFl4
namespace Go.Proofs.Yticemhnfcelpmaa
open Go.ChangeShapes Go.WideShapes Go.ChangeAt Go.RowKit Go.Maps

section
variable {base : Nat} {w : World} {N M n : Nat} {sp : Option Addr} {c : Nat} {xs : List (Pkt × Hdl)} {last : Int} {S : Int → Int → Bool} {ck : List Int}
/-- Send's error. -/
def sendX (S : Int → Int → Bool) (many : Nat) (f t : Int) (len : Nat) : Nat := if isL f t = false then 2 else if 65536 < len ∨ 128 ≤ many then 6 else if S f t = true then 8 else 0
set_option maxHeartbeats 2000000 in
theorem send_no (h : NetAt base w N M n sp c xs last S ck) (f t : Int) (hf : In64 f) (ht : In64 t) (a : Option Addr) (m k : Nat) (hx : sendX S xs.length f t m ≠ 0) :
    Calls Try.prog 7 #[.pointer (some ⟨N, 0, none⟩), .int .i64 f, .int .i64 t, .slice a m k] w fun e w' => e = .returned (.tuple #[.int .i64 0, .int .i64 (sendX S xs.length f t m : Nat)]) ∧ Below w.heap.size w w' := by
  have H := hide h
  clear h
  go_enter Try.func7, Try.ntmps7
  go_wp2_with fail
  refine (isLink_calls f t _).mono ?_
  rintro e W1 ⟨rfl, b1⟩
  have B1 := hide b1
  have H1 := hide ((unhide H).later b1)
  clear b1
  cases hL : isL f t
  · go_wp2
    go_ret2
    rw [show sendX S xs.length f t m = 2 by simp [sendX, hL]]
    exact ⟨rfl, unhide B1⟩
  · by_cases hm : 65536 < m
    · go_wp2
      go_ret2
      rw [show sendX S xs.length f t m = 6 by simp [sendX, hL, hm]]
      exact ⟨rfl, unhide B1⟩
    · go_wp2_with fail
      refine (full_calls (unhide H1)).mono ?_
      rintro e W2 ⟨rfl, rfl⟩
      by_cases hfu : 128 ≤ xs.length
      · have hd : decide (128 ≤ xs.length) = true := by simp [hfu]
        rw [hd]
        go_wp2
        go_ret2
        rw [show sendX S xs.length f t m = 6 by simp [sendX, hL, hfu]]
        exact ⟨rfl, unhide B1⟩
      · have hd : decide (128 ≤ xs.length) = false := by simp [hfu]
        rw [hd]
        go_wp2_with fail
        refine (parted_calls (unhide H1) f t hf ht).mono ?_
        rintro e W3 ⟨rfl, b3⟩
        have B3 := hide ((unhide B1).trans (b3.mono (unhide B1).size))
        clear b3
        cases hS : S f t
        · exact absurd (by simp [sendX, hL, hm, hfu, hS]) hx
        · go_wp2
          go_ret2
          rw [show sendX S xs.length f t m = 8 by simp [sendX, hL, hm, hfu, hS]]
          exact ⟨rfl, unhide B3⟩
theorem sendX_zero {many : Nat} {f t : Int} {m : Nat} (h : sendX S many f t m = 0) : isL f t = true ∧ m ≤ 65536 ∧ many < 128 ∧ S f t = false := by
  unfold sendX at h
  split at h
  · cases h
  · rename_i h1
    split at h
    · cases h
    · rename_i h2
      split at h
      · cases h
      · rename_i h3
        exact ⟨by simpa using h1, by omega, by omega, by simpa using h3⟩
set_option maxHeartbeats 2000000 in
theorem send_fresh (h : NetAt base w N M n sp c xs last S ck) (f t : Int) (hf : In64 f) (ht : In64 t) (a : Option Addr) (m k : Nat) (l : List Nat) (hm : l.length = m) (hb : BytesAt w a l) (hbN : ∀ b off, 0 < l.length → a = some ⟨b, off, none⟩ → b ≠ N) (hz : a = none → k = 0) (hl0 : 0 ≤ last) (hl1 : last ≤ 1000000) (hx : sendX S xs.length f t m = 0) :
    Calls Try.prog 7 #[.pointer (some ⟨N, 0, none⟩), .int .i64 f, .int .i64 t, .slice a m k] w fun e w' => e = .returned (.tuple #[.int .i64 (last + 1), .int .i64 0]) ∧ ∃ sp' c' hd, NetAt base w' N M n sp' c' (xs ++ [((last + 1, f, t, l), hd)]) (last + 1) S ck ∧ NGrew N M w sp w' sp' ∧ ∀ g, blk hd.1 = some g → w.heap.size ≤ g := by
  obtain ⟨hL, hm2, hfu, hS⟩ := sendX_zero hx
  have H := hide h
  have HB := hide hb
  have HN := hide hbN
  have HZ := hide hz
  have HM := hide hm
  clear h hb hbN hz hm hx
  go_enter Try.func7, Try.ntmps7
  go_wp2_with fail
  refine (isLink_calls f t _).mono ?_
  rintro e W1 ⟨rfl, b1⟩
  have B1 := hide b1
  have H1 := hide ((unhide H).later b1)
  clear b1
  rw [hL]
  have hm3 : ¬ 65536 < m := by omega
  go_wp2_with fail
  refine (full_calls (unhide H1)).mono ?_
  rintro e W2 ⟨rfl, rfl⟩
  rw [show decide (128 ≤ xs.length) = false by simp; omega]
  go_wp2_with fail
  refine (parted_calls (unhide H1) f t hf ht).mono ?_
  rintro e W3 ⟨rfl, b3⟩
  have B3 := hide ((unhide B1).trans (b3.mono (unhide B1).size))
  have H3 := hide ((unhide H1).later b3)
  rw [hS]
  clear b3
  go_wp2_with fail
  refine (launch_fresh (unhide H3) f t a m k l (unhide HM) (by omega) ((unhide HB).later (unhide B3)) (unhide HN) (unhide HZ) hl0 hl1 (by omega)).mono ?_
  rintro e W4 ⟨rfl, sp', c', hd, h4, g4, l4⟩
  have H4 := hide h4
  have L4 := hide (show ∀ g, blk hd.1 = some g → _ ≤ g from fun g hg => Nat.le_trans (unhide B3).size (l4 g hg))
  have G4 := hide ((NGrew.ofBelow (unhide B3)).trans g4)
  clear h4 g4 l4
  go_wp2
  go_ret2
  exact ⟨rfl, sp', c', hd, unhide H4, unhide G4, unhide L4⟩
theorem send_yes (h : NetAt base w N M n sp c xs last S ck) (f t : Int) (hf : In64 f) (ht : In64 t) (a : Option Addr) (m k : Nat) (l : List Nat) (hm : l.length = m) (hb : BytesAt w a l) (hbN : ∀ b off, 0 < l.length → a = some ⟨b, off, none⟩ → b ≠ N) (hz : a = none → k = 0) (hl0 : 0 ≤ last) (hl1 : last ≤ 1000000) (hx : sendX S xs.length f t m = 0) :
    Calls Try.prog 7 #[.pointer (some ⟨N, 0, none⟩), .int .i64 f, .int .i64 t, .slice a m k] w fun e w' => e = .returned (.tuple #[.int .i64 (last + 1), .int .i64 0]) ∧ ∃ sp' c' hd, NetAt base w' N M n sp' c' (xs ++ [((last + 1, f, t, l), hd)]) (last + 1) S ck ∧ NGrew N M w sp w' sp' :=
  (send_fresh h f t hf ht a m k l hm hb hbN hz hl0 hl1 hx).mono fun _ _ ⟨h1, sp', c', hd, h2, h3, _⟩ => ⟨h1, sp', c', hd, h2, h3⟩
/-- A packet in its row. -/
theorem OwnP.cell {base top : Nat} {w : World} {sp : Option Addr} {c : Nat} {xs : List (Pkt × Hdl)} (h : OwnP base top w sp c xs) (i : Nat) (hi : i < xs.length) : ∃ g, sp = some ⟨g, 0, none⟩ ∧ w.cell? ⟨g, i * 4, none⟩ = some (.int .i64 xs[i].1.1) ∧ w.cell? ⟨g, i * 4 + 1, none⟩ = some (.int .i64 xs[i].1.2.1) ∧
    w.cell? ⟨g, i * 4 + 2, none⟩ = some (.int .i64 xs[i].1.2.2.1) ∧ w.cell? ⟨g, i * 4 + 3, none⟩ = some (.slice xs[i].2.1 xs[i].1.2.2.2.length xs[i].2.2) := by
  rcases h.row.2 with ⟨_, h0⟩ | ⟨g, cap, cur, hv, _, hg, _, _, _, ht⟩
  · omega
  · simp only [Value.slice.injEq] at hv
    obtain ⟨rfl, _, _⟩ := hv
    have key : ∀ f, f < 4 → w.cell? ⟨g, i * 4 + f, none⟩ = (pkRow xs[i])[f]? := by
      intro f hf
      rw [cell_of_row w g _ cur _ _ hg]
      have e := rowsP_get xs i f hi hf
      rw [← ht, List.getElem?_take, if_pos (by omega)] at e
      rw [← Array.getElem?_toList, e]
    refine ⟨g, rfl, ?_, ?_, ?_, ?_⟩
    · have := key 0 (by omega); simpa [pkRow] using this
    · have := key 1 (by omega); simpa [pkRow] using this
    · have := key 2 (by omega); simpa [pkRow] using this
    · have := key 3 (by omega); simpa [pkRow] using this
/-- Double's error. -/
def doubleX (xs : List (Pkt × Hdl)) (i : Int) : Nat := if hasP xs i = false then 8 else if 128 ≤ xs.length then 6 else 0
set_option maxHeartbeats 2000000 in
theorem double_no (h : NetAt base w N M n sp c xs last S ck) (i : Int) (hx : doubleX xs i ≠ 0) :
    Calls Try.prog 11 #[.pointer (some ⟨N, 0, none⟩), .int .i64 i] w fun e w' => e = .returned (.tuple #[.int .i64 0, .int .i64 (doubleX xs i : Nat)]) ∧ w' = w := by
  have H := hide h
  clear h
  go_enter Try.func11, Try.ntmps11
  go_wp2_with fail
  refine (has_calls (unhide H) i).mono ?_
  rintro e W1 ⟨rfl, rfl⟩
  cases hL : hasP xs i
  · go_wp2
    go_ret2
    rw [show doubleX xs i = 8 by simp [doubleX, hL]]
    exact ⟨rfl, rfl⟩
  · go_wp2_with fail
    refine (full_calls (unhide H)).mono ?_
    rintro e W2 ⟨rfl, rfl⟩
    by_cases hfu : 128 ≤ xs.length
    · have hd : decide (128 ≤ xs.length) = true := by simp [hfu]
      rw [hd]
      go_wp2
      go_ret2
      rw [show doubleX xs i = 6 by simp [doubleX, hL, hfu]]
      exact ⟨rfl, rfl⟩
    · exact absurd (by simp [doubleX, hL, hfu]) hx
set_option maxHeartbeats 2000000 in
theorem double_fresh (h : NetAt base w N M n sp c xs last S ck) (i : Nat) (hi : i < xs.length) (hfu : xs.length < 128) (hl0 : 0 ≤ last) (hl1 : last ≤ 1000000) (hbl : xs[i].1.2.2.2.length ≤ 140737488355328) :
    Calls Try.prog 11 #[.pointer (some ⟨N, 0, none⟩), .int .i64 (i : Int)] w fun e w' => e = .returned (.tuple #[.int .i64 (last + 1), .int .i64 0]) ∧ ∃ sp' c' hd, NetAt base w' N M n sp' c' (xs ++ [((last + 1, xs[i].1.2.1, xs[i].1.2.2.1, xs[i].1.2.2.2), hd)]) (last + 1) S ck ∧ NGrew N M w sp w' sp' ∧ ∀ g, blk hd.1 = some g → w.heap.size ≤ g := by
  have hP : hasP xs i = true := by simp [hasP, hi]
  have c0 := h.c0
  have H := hide h
  have DB := hide (h.own.dat.own xs[i] (List.getElem_mem hi)).1
  have DN := hide (show ∀ b off, 0 < xs[i].1.2.2.2.length → xs[i].2.1 = some ⟨b, off, none⟩ → b ≠ N from fun b off _ e e' => (unhide DB).ne_block h.blk (by decide) (by rw [e, e']; rfl))
  obtain ⟨g, rfl, p0, p1, p2, p3⟩ := h.own.cell i hi
  clear h
  generalize xs[i] = x at *
  obtain ⟨⟨id, f, t, l⟩, dp, dc⟩ := x
  simp only at p0 p1 p2 p3 hbl DB DN
  have hj0 : (0 : Int) ≤ (i : Int) := by omega
  have hj1 : (i : Int) < (xs.length : Int) := by omega
  have q := heap_new w (.cells #[.int .i64 id, .int .i64 f, .int .i64 t, .slice dp l.length dc] 35)
  have q1 := box_cell q 1 _ rfl
  have q2 := box_cell q 2 _ rfl
  have q3 := box_cell q 3 _ rfl
  have bA := hide (show Below w.heap.size w (w.alloc (.cells #[.int .i64 id, .int .i64 f, .int .i64 t, .slice dp l.length dc] 35)) from (Below.refl _ _).alloc (Nat.le_refl _) _)
  clear q
  go_enter Try.func11, Try.ntmps11
  go_wp2_with fail
  refine (has_calls (unhide H) i).mono ?_
  rintro e W1 ⟨rfl, rfl⟩
  rw [hP]
  go_wp2_with fail
  refine (full_calls (unhide H)).mono ?_
  rintro e W2 ⟨rfl, rfl⟩
  rw [show decide (128 ≤ xs.length) = false by simp; omega]
  go_wp2_with fail
  refine (launch_fresh ((unhide H).later (unhide bA)) f t dp l.length dc l rfl hbl ((unhide DB).bytes.later (unhide bA)) (unhide DN) (unhide DB).nilCap hl0 hl1 (by omega)).mono ?_
  rintro e W4 ⟨rfl, sp', c', hd, h4, g4, l4⟩
  have H4 := hide h4
  have L4 := hide (show ∀ g, blk hd.1 = some g → _ ≤ g from fun g hg => Nat.le_trans (unhide bA).size (l4 g hg))
  have G4 := hide ((NGrew.ofBelow (unhide bA)).trans g4)
  clear h4 g4 l4
  go_wp2
  go_ret2
  exact ⟨rfl, sp', c', hd, unhide H4, unhide G4, unhide L4⟩
theorem double_yes (h : NetAt base w N M n sp c xs last S ck) (i : Nat) (hi : i < xs.length) (hfu : xs.length < 128) (hl0 : 0 ≤ last) (hl1 : last ≤ 1000000) (hbl : xs[i].1.2.2.2.length ≤ 140737488355328) :
    Calls Try.prog 11 #[.pointer (some ⟨N, 0, none⟩), .int .i64 (i : Int)] w fun e w' => e = .returned (.tuple #[.int .i64 (last + 1), .int .i64 0]) ∧ ∃ sp' c' hd, NetAt base w' N M n sp' c' (xs ++ [((last + 1, xs[i].1.2.1, xs[i].1.2.2.1, xs[i].1.2.2.2), hd)]) (last + 1) S ck ∧ NGrew N M w sp w' sp' :=
  (double_fresh h i hi hfu hl0 hl1 hbl).mono fun _ _ ⟨h1, sp', c', hd, h2, h3, _⟩ => ⟨h1, sp', c', hd, h2, h3⟩
end
end Go.Proofs.Yticemhnfcelpmaa
