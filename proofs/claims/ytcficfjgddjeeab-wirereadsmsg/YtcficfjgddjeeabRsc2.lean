/- The document's answers of layer 2, their scan: one, row. -/
import Derived.Test.YtcficfjgddjeeabRadd
import Derived.Test.YtcficfjgddjeeabRent
namespace Go.Proofs.Ytcficfjgddjeeab
open Go.ChangeShapes Go.WideShapes Go.ChangeAt Go.RowKit

/-- What one does to a scan. -/
def oneS (l : List Nat) (lo hi k x : Nat) : Nat × Nat × Nat :=
  if x ≠ 0 then (0, k, x) else
  match oneE l lo hi k with
  | .error y => (0, k, y)
  | .ok (n, k2) => (n, k2, 0)
set_option maxHeartbeats 1000000 in
theorem scanOne_calls (S : Nat) (a : Option Addr) (c : Nat) (l : List Nat) (lo hi k x : Nat) (w : World) (h : ScAt S w a c l k x) (hl : l.length ≤ 140737488355328) :
    Calls Try.prog 34 #[.pointer (some ⟨S, 0, none⟩), .int .i64 (lo : Int), .int .i64 (hi : Int)] w fun e w' => e = .returned (.int .i64 ((oneS l lo hi k x).1 : Int)) ∧ ScAt S w' a c l (oneS l lo hi k x).2.1 (oneS l lo hi k x).2.2 ∧ w.grownBy w' (some S) := by
  obtain ⟨c0, c1, c2, f1, f2⟩ := h.cells
  have H := hide h
  by_cases hx : x = 0
  · subst hx
    by_cases hk : k < l.length
    · obtain ⟨b, off, rfl, hcell⟩ := h.bytes.cell k hk
      have h256 := getD_lt h.bytes.lt k
      have HO := hide (show oneE l lo hi k = if lo ≤ l.getD k 0 ∧ l.getD k 0 ≤ hi then .ok (l.getD k 0, k + 1) else .error 4 by rw [oneE, if_pos hk])
      generalize l.getD k 0 = z at *
      have hk' : (k : Int) < (l.length : Int) := by omega
      have hk0 : (0 : Int) ≤ (k : Int) := by omega
      clear h
      by_cases hz : lo ≤ z ∧ z ≤ hi
      · have hN := hide (show oneS l lo hi k 0 = (z, k + 1, 0) by rw [oneS, if_neg (by decide), unhide HO, if_pos hz])
        obtain ⟨hz1, hz2⟩ := hz
        go_enter Try.func34, Try.ntmps34
        go_wp2_with fail
        go_quiet (fail)
        go_wp2_with fail
        go_quiet (fail)
        go_wp2
        go_ret
        rw [unhide hN]
        exact ⟨rfl, ((unhide H).drewN _).place (k + 1) hk, grown_trans (grown_drewN _ _ _) (grown_set _ _ _ _)⟩
      · have hN := hide (show oneS l lo hi k 0 = (0, k, 4) by rw [oneS, if_neg (by decide), unhide HO, if_neg hz])
        by_cases hz1 : lo ≤ z
        · have hz2 : ¬ z ≤ hi := fun h => hz ⟨hz1, h⟩
          clear hz
          go_enter Try.func34, Try.ntmps34
          go_wp2_with fail
          go_quiet (fail)
          go_wp2_with fail
          go_quiet (fail)
          go_wp2_with fail
          refine (fail_calls S _ c l k 4 _ ((unhide H).drewN _)).mono ?_
          rintro e w1 ⟨rfl, hs1, hg1⟩
          go_wp2
          go_ret
          rw [unhide hN]
          exact ⟨rfl, hs1, grown_trans (grown_drewN _ _ _) hg1⟩
        · clear hz
          go_enter Try.func34, Try.ntmps34
          go_wp2_with fail
          go_quiet (fail)
          go_wp2_with fail
          go_quiet (fail)
          go_wp2_with fail
          refine (fail_calls S _ c l k 4 _ ((unhide H).drewN _)).mono ?_
          rintro e w1 ⟨rfl, hs1, hg1⟩
          go_wp2
          go_ret
          rw [unhide hN]
          exact ⟨rfl, hs1, grown_trans (grown_drewN _ _ _) hg1⟩
    · have hN := hide (show oneS l lo hi k 0 = (0, k, 3) by rw [oneS, if_neg (by decide), oneE, if_neg hk])
      clear h
      go_enter Try.func34, Try.ntmps34
      go_wp2_with fail
      go_quiet (fail)
      go_wp2_with fail
      refine (fail_calls S _ c l k 3 _ ((unhide H).drewN _)).mono ?_
      rintro e w1 ⟨rfl, hs1, hg1⟩
      go_wp2
      go_ret
      rw [unhide hN]
      exact ⟨rfl, hs1, grown_trans (grown_drewN _ _ _) hg1⟩
  · have hN := hide (show oneS l lo hi k x = (0, k, x) by rw [oneS, if_pos hx])
    have hx0 : ¬ (x : Int) = 0 := by omega
    clear hx h
    go_enter Try.func34, Try.ntmps34
    go_wp2
    go_ret
    rw [unhide hN]
    exact ⟨rfl, unhide H, grown_refl _ _⟩
theorem row_bad (S : Nat) (a : Option Addr) (c : Nat) (l : List Nat) (most k x : Nat) (w : World) (h : ScAt S w a c l k x) (hl : l.length ≤ 140737488355328) (hx : x ≠ 0) :
    Calls Try.prog 38 #[.pointer (some ⟨S, 0, none⟩), .int .i64 (most : Int)] w fun e w' => e = .returned (.slice none 0 0) ∧ ScAt S w' a c l k x ∧ w.grownBy w' (some S) := by
  have H := hide h
  have HN := hide (show numS l 0 k x = (0, k, x) by rw [numS, if_pos hx])
  have hx0 : ((x : Int) == 0) = false := by simp; omega
  have hx1 : ¬ (x : Int) = 0 := by omega
  clear h hx
  go_enter Try.func38, Try.ntmps38
  go_wp2_with fail
  refine (num_calls S a c l 0 k x _ (unhide H) hl).mono ?_
  rw [unhide HN]
  rintro e W1 ⟨rfl, s1, g1⟩
  obtain ⟨c0, c1, c2, f1, f2⟩ := s1.cells
  have S1 := hide s1
  have G1 := hide g1
  clear s1 g1
  go_wp2_with fail
  go_quiet (fail)
  go_wp2
  go_ret
  exact ⟨rfl, (unhide S1).drewN _, grown_trans (unhide G1) (grown_drewN _ _ _)⟩
theorem ScAt.later {S : Nat} {w w' : World} {a : Option Addr} {c : Nat} {l : List Nat} {k x : Nat} (h : ScAt S w a c l k x) (hb : Below w.heap.size w w') : ScAt S w' a c l k x :=
  ⟨(hb.block S (Array.getElem?_eq_some_iff.1 h.blk).1).trans h.blk, h.bytes.later hb, h.low, h.le⟩
theorem ScAt.lt {S : Nat} {w : World} {a : Option Addr} {c : Nat} {l : List Nat} {k x : Nat} (h : ScAt S w a c l k x) : S < w.heap.size := (Array.getElem?_eq_some_iff.1 h.blk).1
theorem ScAt.far {S : Nat} {w w' : World} {a : Option Addr} {c : Nat} {l : List Nat} {k x j : Nat} (h : ScAt S w a c l k x) (hg : w.grownBy w' (some j)) (hj : j ≠ S) (hb : ∀ b off, 0 < l.length → a = some ⟨b, off, none⟩ → b ≠ j) : ScAt S w' a c l k x := by
  refine ⟨grown_block hg h.blk (fun e => hj e.symm), ⟨h.bytes.lt, fun i hi => ?_⟩, h.low, h.le⟩
  obtain ⟨b, off, h1, h2⟩ := h.bytes.cell i hi
  refine ⟨b, off, h1, ?_⟩
  rw [hg.cell_far ⟨b, off + i, none⟩ (World.block_lt_of_cell? _ _ h2) (by simpa using hb b off (by omega) h1)]
  exact h2
/-- How row ends. -/
def RowEnds (S : Nat) (a : Option Addr) (c : Nat) (l : List Nat) (base : Nat) (r : Except Nat (List Nat × Nat)) (e : Ending) (w' : World) : Prop :=
  match r with
  | .ok (d, k') => (∃ sp m cc, e = .returned (.slice sp m cc) ∧ Hid (d.length = m) ∧ OwnB base w' sp cc d) ∧ ScAt S w' a c l k' 0
  | .error y => e = .returned (.slice none 0 0) ∧ ∃ k', ScAt S w' a c l k' y
set_option maxHeartbeats 2000000 in
theorem row_calls (S : Nat) (a : Option Addr) (c : Nat) (l : List Nat) (most k : Nat) (w : World) (h : ScAt S w a c l k 0) (hl : l.length ≤ 140737488355328) (hc : l.length ≤ c) (hz : a = none → c = 0) :
    Calls Try.prog 38 #[.pointer (some ⟨S, 0, none⟩), .int .i64 (most : Int)] w fun e w' => RowEnds S a c l w.heap.size (rowE l most k) e w' ∧ w.grownBy w' (some S) := by
  have H := hide h
  have HL := hide hl
  have HSlt := hide (Array.getElem?_eq_some_iff.1 h.blk).1
  clear h
  cases ht : takeE l k with
  | error y =>
    have hy := takeE_pos ht
    have HR := hide (show rowE l most k = .error y by rw [rowE, ht])
    have HN := hide (show numS l 0 k 0 = (0, k, y) by simp only [numS, ht]; rfl)
    have hx0 : ((y : Int) == 0) = false := by simp; omega
    have hx1 : ¬ (y : Int) = 0 := by omega
    clear hy ht
    go_enter Try.func38, Try.ntmps38
    go_wp2_with fail
    refine (num_calls S a c l 0 k 0 _ (unhide H) (unhide HL)).mono ?_
    rw [unhide HN]
    rintro e W1 ⟨rfl, s1, g1⟩
    obtain ⟨c0, c1, c2, f1, f2⟩ := s1.cells
    have S1 := hide s1
    have G1 := hide g1
    clear s1 g1
    go_wp2_with fail
    go_quiet (fail)
    go_wp2
    go_ret
    rw [unhide HR]
    exact ⟨⟨rfl, k, (unhide S1).drewN _⟩, grown_trans (unhide G1) (grown_drewN _ _ _)⟩
  | ok p =>
    obtain ⟨n, k1⟩ := p
    have HN := hide (show numS l 0 k 0 = (n, k1, 0) by simp only [numS, ht]; rfl)
    have hk1 := takeE_le ht (unhide H).le
    by_cases hm : most < n
    · have HR := hide (show rowE l most k = .error 6 by rw [rowE, ht]; simp only [if_pos hm])
      clear ht
      go_enter Try.func38, Try.ntmps38
      go_wp2_with fail
      refine (num_calls S a c l 0 k 0 _ (unhide H) (unhide HL)).mono ?_
      rw [unhide HN]
      rintro e W1 ⟨rfl, s1, g1⟩
      obtain ⟨c0, c1, c2, f1, f2⟩ := s1.cells
      have S1 := hide s1
      have G1 := hide g1
      clear s1 g1
      go_wp2_with fail
      refine (fail_calls S a c l k1 6 _ (unhide S1)).mono ?_
      rintro e W2 ⟨rfl, s2, g2⟩
      obtain ⟨d0, d1, d2, _, _⟩ := s2.cells
      have S2 := hide s2
      have G2 := hide (grown_trans (unhide G1) g2)
      clear s2 g2 c0 c1 c2 f1 f2
      go_wp2_with fail
      go_quiet (fail)
      go_wp2
      go_ret
      rw [unhide HR]
      exact ⟨⟨rfl, k1, (unhide S2).drewN _⟩, grown_trans (unhide G2) (grown_drewN _ _ _)⟩
    · by_cases hs : l.length - k1 < n
      · have HR := hide (show rowE l most k = .error 3 by rw [rowE, ht]; simp only [if_neg hm, dataE, if_pos hs])
        have hd : decide ((l.length : Int) - (k1 : Int) < (n : Int)) = true := by simp; omega
        clear ht
        go_enter Try.func38, Try.ntmps38
        go_wp2_with fail
        refine (num_calls S a c l 0 k 0 _ (unhide H) (unhide HL)).mono ?_
        rw [unhide HN]
        rintro e W1 ⟨rfl, s1, g1⟩
        obtain ⟨c0, c1, c2, f1, f2⟩ := s1.cells
        have S1 := hide s1
        have G1 := hide g1
        clear s1 g1
        go_wp2_with fail
        go_quiet (fail)
        go_wp2_with fail
        refine (fail_calls S a c l k1 3 _ ((unhide S1).drewN _)).mono ?_
        rintro e W2 ⟨rfl, s2, g2⟩
        obtain ⟨d0, d1, d2, _, _⟩ := s2.cells
        have S2 := hide s2
        have G2 := hide (grown_trans (grown_trans (unhide G1) (grown_drewN _ _ _)) g2)
        clear s2 g2 c0 c1 c2 f1 f2
        go_wp2
        go_ret
        rw [unhide HR]
        exact ⟨⟨rfl, k1, unhide S2⟩, unhide G2⟩
      · have HR := hide (show rowE l most k = .ok ((l.drop k1).take n, k1 + n) by rw [rowE, ht]; simp only [if_neg hm, dataE, if_neg hs])
        have hd : decide ((l.length : Int) - (k1 : Int) < (n : Int)) = false := by simp; omega
        have hd' : (n : Int) ≤ (l.length : Int) - (k1 : Int) := by omega
        have hsl : ∀ u, (Instr.slice 24 (.slice a l.length c) (some (.int .i64 (k1 : Int))) (some (.int .i64 ((k1 : Int) + (n : Int)))) none).run Try.prog u = .ok (.slice (slp a k1 c) n (c - k1)) u := fun u => by
          have := run_slice_lh8 a l.length c k1 (k1 + n) (by omega) (by omega) u
          rw [Nat.add_sub_cancel_left] at this
          rw [← this, Int.natCast_add]
        have HLen := hide (show ((l.drop k1).take n).length = n by rw [List.length_take, List.length_drop]; omega)
        have Hz := hide (show slp a k1 c = none → c - k1 = 0 by
          intro e
          unfold slp at e
          split at e
          · omega
          · cases a with
            | none => have := hz rfl; omega
            | some x => cases e)
        have hslp := hide (show ∀ W : World, BytesAt W a l → BytesAt W (slp a k1 c) ((l.drop k1).take n) from fun W hb => (hb.drop k1 c hc).take n)
        have hadd : IntKind.i64.wrap ((k1 : Int) + (n : Int)) = (k1 : Int) + (n : Int) := by rw [IntKind.wrap_i64]; omega
        generalize slp a k1 c = p at *
        clear ht hz
        go_enter Try.func38, Try.ntmps38
        go_wp2_with fail
        refine (num_calls S a c l 0 k 0 _ (unhide H) (unhide HL)).mono ?_
        rw [unhide HN]
        rintro e W1 ⟨rfl, s1, g1⟩
        obtain ⟨c0, c1, c2, f1, f2⟩ := s1.cells
        have S1 := hide s1
        have G1 := hide g1
        clear s1 g1
        go_wp2_with fail
        go_quiet (fail)
        go_wp2_with fail
        have S2 := hide ((unhide S1).drewN nq)
        have G2 := hide (grown_trans (unhide G1) (grown_drewN W1 nq (some S)))
        obtain ⟨d0, d1, d2, _, _⟩ := (unhide S2).cells
        generalize W1.drewN nq = W2 at *
        have hb3 : Below W2.heap.size W2 (W2.alloc (.cells #[] 5)).drew := ((Below.refl _ _).alloc (Nat.le_refl _) _).drew
        have B3 := hide (unhide hslp _ ((unhide S2).bytes.later hb3))
        have B4 := hide hb3
        have o3 := hide ((OwnB.empty W2 W2.heap.size (Nat.le_refl _)).drew)
        have HS2 := hide (show S < W2.heap.size from (Array.getElem?_eq_some_iff.1 (unhide S2).blk).1)
        clear hb3 c0 c1 c2 f1 f2
        go_region_held3 (fun w' => w'.cell? ⟨S, 0, none⟩ = some (.slice a l.length c) ∧ w'.cell? ⟨S, 1, none⟩ = some (.int .i64 (k1 : Int)) ∧ (Instr.slice 24 (.slice a l.length c) (some (.int .i64 (k1 : Int))) (some (.int .i64 ((k1 : Int) + (n : Int)))) none).run Try.prog w' = .ok (.slice p n (c - k1)) w')
          (first
            | exact ⟨d0, d1, hsl _⟩
            | exact ⟨((unhide B4).cell (p := ⟨S, 0, none⟩) (unhide HS2)).trans d0, ((unhide B4).cell (p := ⟨S, 1, none⟩) (unhide HS2)).trans d1, hsl _⟩
            | exact ⟨(((unhide B4).trans hb5).cell (p := ⟨S, 0, none⟩) (unhide HS2)).trans d0, (((unhide B4).trans hb5).cell (p := ⟨S, 1, none⟩) (unhide HS2)).trans d1, hsl _⟩)
          (first
            | (refine step_append8L rfl (.tmp 47) (.tmp 62) rfl W2.heap.size (some ⟨W2.heap.size, 0, none⟩) 0 0 [] rfl rfl (by exact unhide o3) p n (c - k1) rfl ((l.drop k1).take n) (unhide HLen) (by exact unhide B3) (unhide Hz) (by simp only [List.length_nil]; omega) (by exact (unhide B4).size) ?_; intro sp5 n5 k5 W5 hn5 ho5 hg5 hl5; have hb5 := (Below.refl W2.heap.size _).grown hg5 (by exact (unhide B4).size) (fun j e => Nat.le_of_eq (Option.some.inj e))))
        rw [List.nil_append] at hn5 ho5
        have hw5 : Below W2.heap.size W2 W5 := (unhide B4).trans hb5
        have s5 := (unhide S2).later hw5
        obtain ⟨e0, e1, e2, f1, f2⟩ := s5.cells
        have HS6 := hide (s5.place (k1 + n) (by omega))
        have HG6 := hide (grown_trans (grown_trans (unhide G2) (grown_below (some S) hw5)) (grown_set W5 S 1 (.int .i64 ((k1 + n : Nat) : Int))))
        have HO6 := hide ((ho5.far (grown_set W5 S 1 (.int .i64 ((k1 + n : Nat) : Int))) (unhide HS2)).mono (unhide G2).size)
        rw [show (((k1 + n : Nat) : Int)) = (k1 : Int) + (n : Int) from Int.natCast_add k1 n] at HS6 HG6 HO6
        clear hw5 s5 ho5 hg5 hl5 hb5
        go_wp2
        go_ret
        rw [unhide HR]
        exact ⟨⟨⟨sp5, n5, k5, rfl, hn5, unhide HO6⟩, unhide HS6⟩, unhide HG6⟩
end Go.Proofs.Ytcficfjgddjeeab
