/- Proved: no more than MaxFlight packets are under way, and one that is taken makes room, whatever the number of packets (a byte) and whichever is taken; no condition. -/
import Derived.Test.YtiipmgmmnjfefaaArgi
import Derived.Test.YtiipmgmmnjfefaaFl12
import Derived.Test.YtiipmgmmnjfefaaFl14
namespace Go.Proofs.Ytiipmgmmnjfefaa.flightFull
open Go.ChangeShapes Go.WideShapes Go.ChangeAt Go.RowKit
set_option linter.unusedVariables false

theorem own : ownKnob Try.prog.godebug = none := by kernel_rfl
theorem laidOut : laidOutB Try.prog = true := by kernel_rfl

/-- The packets that the law sends. -/
def pkOf (q : Nat) : Pkt := ((q : Int) + 1, 1 + (q : Int) % 3, 4 + (q : Int) % 5, [q])
def SentP (xs : List (Pkt × Hdl)) (m : Nat) : Prop := xs.map (·.1) = (List.range m).map pkOf
theorem SentP.len {xs : List (Pkt × Hdl)} {m : Nat} (h : SentP xs m) : xs.length = m := by
  have := congrArg List.length h
  simpa using this
theorem SentP.get {xs : List (Pkt × Hdl)} {m : Nat} (h : SentP xs m) (i : Nat) (hi : i < xs.length) : xs[i].1 = pkOf i := by
  have h1 : (xs.map (·.1))[i]? = ((List.range m).map pkOf)[i]? := by rw [h]
  have hl := h.len
  rw [List.getElem?_map, List.getElem?_map, List.getElem?_eq_getElem hi, List.getElem?_range (by omega)] at h1
  simpa using h1
theorem SentP.snoc {xs : List (Pkt × Hdl)} {m : Nat} (h : SentP xs m) (hd : Hdl) : SentP (xs ++ [(pkOf m, hd)]) (m + 1) := by
  unfold SentP at *
  rw [List.map_append, h, List.range_succ, List.map_append]
  rfl
/-- Of numbers that differ one alone is taken out. -/
theorem keep_one {xs : List (Pkt × Hdl)} {m : Nat} (h : SentP xs m) (i : Nat) (hi : i < xs.length) : (keep (sameId xs[i].1.1) xs).length = xs.length - 1 := by
  have hl := h.len
  have key : ∀ k, k ≤ xs.length → (keep (sameId xs[i].1.1) (xs.take k)).length = if i < k then k - 1 else k := by
    intro k
    induction k with
    | zero => intro _; simp [keep]
    | succ k ih =>
      intro hk
      have hk' : k < xs.length := by omega
      have ihk := ih (by omega)
      by_cases e : k = i
      · subst e
        rw [keep_yes k hk' (by simp [sameId]), ihk, if_neg (by omega), if_pos (by omega)]
        omega
      · have hp : sameId xs[i].1.1 xs[k].1 = false := by
          simp only [sameId, decide_eq_false_iff_not]
          rw [h.get k hk', h.get i hi]
          simp only [pkOf]
          omega
        rw [keep_no k hk' hp, List.length_append, ihk]
        simp only [List.length_cons, List.length_nil]
        split <;> split <;> omega
  have := key xs.length (Nat.le_refl _)
  rw [List.take_length, if_pos hi] at this
  exact this
set_option maxRecDepth 20000 in
set_option maxHeartbeats 8000000 in
theorem walk (k : Nat) (ii : Int) (w : World) (hk : k < 256) (hii : -9223372036854775808 ≤ ii ∧ ii ≤ 9223372036854775807) :
    Calls Try.prog 7 #[.int .u8 (k : Int), .int .i64 ii] w fun e w' => e = .returned (.bool true) ∧ Below w.heap.size w w' := by
  go_enter Try.func7, Try.ntmps7
  go_wp2_with fail
  refine (new_calls _).mono ?_
  rintro e W1 ⟨N, M, rfl, h1, b1⟩
  have H1 := hide h1
  have B1 := hide b1
  clear h1 b1
  have hwk : IntKind.i64.wrap (k : Int) = (k : Int) := by rw [IntKind.wrap_i64]; omega
  go_wp2_with fail
  go_loopw [6] (fun i wr => ∃ (j : Nat) (xs : List (Pkt × Hdl)) (sp : Option Addr) (c : Nat), j ≤ k ∧ i = .int .i64 (j : Int) ∧ Hid (SentP xs (min j 128)) ∧ Hid (NetAt w.heap.size wr N M 0 sp c xs ((min j 128 : Nat) : Int) (fun _ _ => false) (List.replicate 9 0)) ∧ Hid (Below w.heap.size w wr)) (fun i _ => k - (intOf i).toNat)
  case atStart => exact ⟨0, [], none, 0, by omega, rfl, rfl, unhide H1, unhide B1⟩
  case round =>
    obtain ⟨j, xs, sp, c, hj, rfl, hs, H, F⟩ := hrel
    by_cases hjk : j < k
    · have hj1 : (j : Int) < (k : Int) := by omega
      have bA := hide (show Below wr.heap.size wr (wr.alloc (.cells #[.int .u8 (j : Int)] 5)) from (Below.refl _ _).alloc (Nat.le_refl _) _)
      have BB := hide (bytesAt_block (l := [j]) (heap_new wr (.cells #[.int .u8 (j : Int)] 5)) (by intro c hc; simp only [List.mem_cons, List.not_mem_nil, or_false] at hc; omega))
      go_wp2_with fail
      have H2 := hide ((unhide H).later (unhide bA))
      have F2 := hide ((unhide F).trans ((unhide bA).mono (unhide F).size))
      have hNl := hide (unhide H).ltN
      generalize wr.alloc (.cells #[.int .u8 (j : Int)] 5) = W2 at *
      have hlx := (unhide hs).len
      have hf : In64 (1 + (j : Int) % 3) := ⟨by omega, by omega⟩
      have ht : In64 (4 + (j : Int) % 5) := ⟨by omega, by omega⟩
      have hL : isL (1 + (j : Int) % 3) (4 + (j : Int) % 5) = true := by
        simp only [isL, isN, Bool.and_eq_true, decide_eq_true_eq, Bool.not_eq_true', decide_eq_false_iff_not]
        omega
      by_cases h128 : j < 128
      · have hm1 : min j 128 = j := by omega
        have hm2 : min (j + 1) 128 = j + 1 := by omega
        rw [hm1] at hs H2 hlx
        have hX : sendX (fun _ _ => false) xs.length (1 + (j : Int) % 3) (4 + (j : Int) % 5) 1 = 0 := by
          simp only [sendX, hL, hlx]
          simp
          omega
        refine (send_yes (unhide H2) _ _ hf ht _ 1 1 [j] rfl (unhide BB) (fun b off _ e e' => by cases e; have := unhide hNl; omega) (fun e => by cases e) (by omega) (by omega) hX).mono ?_
        rintro e W3 ⟨rfl, sp3, c3, hd3, h3, g3⟩
        have H3 := hide h3
        have F3 := hide ((unhide F2).trans ((unhide H2).below g3))
        have S3 := hide (show SentP (xs ++ [(((j : Int) + 1, 1 + (j : Int) % 3, 4 + (j : Int) % 5, [j]), hd3)]) (min (j + 1) 128) by rw [hm2]; exact (unhide hs).snoc hd3)
        have H4 := hide (show NetAt w.heap.size W3 N M 0 sp3 c3 (xs ++ [(((j : Int) + 1, 1 + (j : Int) % 3, 4 + (j : Int) % 5, [j]), hd3)]) ((min (j + 1) 128 : Nat) : Int) (fun _ _ => false) (List.replicate 9 0) by rw [hm2]; exact h3)
        have hj5 : (j : Int) < 128 := by omega
        clear h3 g3 H3 hX hL hf ht
        go_wp2
        exact ⟨⟨j + 1, _, sp3, c3, by omega, by go_num, unhide S3, unhide H4, unhide F3⟩, by simp [intOf]; omega⟩
      · have hm1 : min j 128 = 128 := by omega
        have hm2 : min (j + 1) 128 = 128 := by omega
        rw [hm1] at hs H2 hlx
        have hX : sendX (fun _ _ => false) xs.length (1 + (j : Int) % 3) (4 + (j : Int) % 5) 1 = 6 := by
          simp [sendX, hL, hlx]
        have hq := send_no (unhide H2) (1 + (j : Int) % 3) (4 + (j : Int) % 5) hf ht (some ⟨wr.heap.size, 0, none⟩) 1 1 (by rw [hX]; decide)
        rw [hX] at hq
        refine hq.mono ?_
        rintro e W3 ⟨rfl, b3⟩
        have H4 := hide (show NetAt w.heap.size W3 N M 0 sp c xs ((min (j + 1) 128 : Nat) : Int) (fun _ _ => false) (List.replicate 9 0) by rw [hm2]; exact (unhide H2).later b3)
        have S3 := hide (show SentP xs (min (j + 1) 128) by rw [hm2]; exact unhide hs)
        have F3 := hide ((unhide F2).trans (b3.mono (unhide F2).size))
        have hj5 : ¬ ((j : Int) < 128) := by omega
        clear b3 hX hL hf ht hq
        go_wp2
        exact ⟨⟨j + 1, xs, sp, c, by omega, by go_num, unhide S3, unhide H4, unhide F3⟩, by simp [intOf]; omega⟩
    · obtain rfl : j = k := by omega
      have hj1 : ¬ ((j : Int) < (j : Int)) := by omega
      by_cases h128 : j ≤ 128
      · have hm1 : min j 128 = j := by omega
        rw [hm1] at hs H
        have hlx := (unhide hs).len
        have hI : (j : Int) ≤ 128 := by omega
        have hmin : min (j : Int) 128 = (j : Int) := by omega
        go_wp2_with fail
        refine (len_calls (unhide H)).mono ?_
        rintro e w2 ⟨rfl, rfl⟩
        rw [hlx]
        go_wp2_with fail
        cases hP : hasP xs ii
        · have hgone : ii < 0 ∨ (j : Int) ≤ ii := by
            simp only [hasP, Bool.and_eq_false_iff, decide_eq_false_iff_not] at hP
            omega
          refine (take_no (unhide H) ii hP).mono ?_
          rintro e W3 ⟨rfl, b3⟩
          have b4 : Below W3.heap.size W3 (W3.alloc zPk) := (Below.refl _ _).alloc (Nat.le_refl _) _
          have H4 := hide (((unhide H).later b3).later b4)
          have F4 := hide (((unhide F).trans (b3.mono (unhide F).size)).trans (b4.mono (Nat.le_trans (unhide F).size b3.size)))
          clear b3 b4
          go_wp2_with fail
          generalize W3.alloc zPk = W4 at *
          by_cases hneg : ii < 0
          · by_cases hm0 : j = 0
            · have hD0 : doubleX xs 0 = 8 := by simp [doubleX, hasP, hlx, hm0]
              subst hm0
              have hD := double_no (unhide H4) 0 (by rw [hD0]; decide)
              rw [hD0] at hD
              refine hD.mono ?_
              rintro e W5 ⟨rfl, rfl⟩
              have F5 := F4
              clear hD
              go_wp2_with fail
              refine (live4_calls _).mono ?_
              rintro e W6 ⟨rfl, b6⟩
              have F6 := hide ((unhide F5).trans (b6.mono (unhide F5).size))
              clear b6
              go_wp2
              go_ret
              exact ⟨by first | rfl | (simp; omega), unhide F6⟩
            · by_cases hm8 : j < 128
              · have hj8 : (j : Int) < 128 := by omega
                have hj9 : (0 : Int) < (j : Int) := by omega
                refine (double_yes (unhide H4) 0 (by omega) (by omega) (by omega) (by omega) (by rw [(unhide hs).get 0 (by omega)]; simp [pkOf])).mono ?_
                rintro e W5 ⟨rfl, sp5, c5, hd5, h5, g5⟩
                have F5 := hide ((unhide F4).trans ((unhide H4).below g5))
                clear h5 g5
                go_wp2_with fail
                refine (live4_calls _).mono ?_
                rintro e W6 ⟨rfl, b6⟩
                have F6 := hide ((unhide F5).trans (b6.mono (unhide F5).size))
                clear b6
                go_wp2
                go_ret
                exact ⟨by first | rfl | (simp; omega), unhide F6⟩
              · have hD0 : doubleX xs 0 = 6 := by simp [doubleX, hasP, hlx, show j = 128 by omega]
                have hj8 : ¬ ((j : Int) < 128) := by omega
                have hj9 : (0 : Int) < (j : Int) := by omega
                have hD := double_no (unhide H4) 0 (by rw [hD0]; decide)
                rw [hD0] at hD
                refine hD.mono ?_
                rintro e W5 ⟨rfl, rfl⟩
                have F5 := F4
                clear hD
                go_wp2_with fail
                refine (live4_calls _).mono ?_
                rintro e W6 ⟨rfl, b6⟩
                have F6 := hide ((unhide F5).trans (b6.mono (unhide F5).size))
                clear b6
                go_wp2
                go_ret
                exact ⟨by first | rfl | (simp; omega), unhide F6⟩
          · have hge : (j : Int) ≤ ii := by omega
            by_cases hm0 : j = 0
            · have hD0 : doubleX xs 0 = 8 := by simp [doubleX, hasP, hlx, hm0]
              subst hm0
              have hD := double_no (unhide H4) 0 (by rw [hD0]; decide)
              rw [hD0] at hD
              refine hD.mono ?_
              rintro e W5 ⟨rfl, rfl⟩
              have F5 := F4
              clear hD
              go_wp2_with fail
              refine (live4_calls _).mono ?_
              rintro e W6 ⟨rfl, b6⟩
              have F6 := hide ((unhide F5).trans (b6.mono (unhide F5).size))
              clear b6
              go_wp2
              go_ret
              exact ⟨by first | rfl | (simp; omega), unhide F6⟩
            · by_cases hm8 : j < 128
              · have hj8 : (j : Int) < 128 := by omega
                have hj9 : (0 : Int) < (j : Int) := by omega
                refine (double_yes (unhide H4) 0 (by omega) (by omega) (by omega) (by omega) (by rw [(unhide hs).get 0 (by omega)]; simp [pkOf])).mono ?_
                rintro e W5 ⟨rfl, sp5, c5, hd5, h5, g5⟩
                have F5 := hide ((unhide F4).trans ((unhide H4).below g5))
                clear h5 g5
                go_wp2_with fail
                refine (live4_calls _).mono ?_
                rintro e W6 ⟨rfl, b6⟩
                have F6 := hide ((unhide F5).trans (b6.mono (unhide F5).size))
                clear b6
                go_wp2
                go_ret
                exact ⟨by first | rfl | (simp; omega), unhide F6⟩
              · have hD0 : doubleX xs 0 = 6 := by simp [doubleX, hasP, hlx, show j = 128 by omega]
                have hj8 : ¬ ((j : Int) < 128) := by omega
                have hj9 : (0 : Int) < (j : Int) := by omega
                have hD := double_no (unhide H4) 0 (by rw [hD0]; decide)
                rw [hD0] at hD
                refine hD.mono ?_
                rintro e W5 ⟨rfl, rfl⟩
                have F5 := F4
                clear hD
                go_wp2_with fail
                refine (live4_calls _).mono ?_
                rintro e W6 ⟨rfl, b6⟩
                have F6 := hide ((unhide F5).trans (b6.mono (unhide F5).size))
                clear b6
                go_wp2
                go_ret
                exact ⟨by first | rfl | (simp; omega), unhide F6⟩
        · have hii2 : 0 ≤ ii ∧ ii < (j : Int) := by
            simp only [hasP, Bool.and_eq_true, decide_eq_true_eq] at hP
            omega
          obtain ⟨hi0, hi1⟩ := hii2
          obtain ⟨i, rfl⟩ := Int.eq_ofNat_of_zero_le hi0
          have hil : i < xs.length := by omega
          have hkl := keep_one (unhide hs) i hil
          have hkb := hide (show ∀ x ∈ keep (sameId xs[i].1.1) xs, x.1.2.2.2.length ≤ 140737488355328 from fun x hx' => by
            have hx2 := (List.mem_filter.1 (show x ∈ xs.filter _ from hx')).1
            obtain ⟨q, hq, rfl⟩ := List.getElem_of_mem hx2
            rw [(unhide hs).get q hq]
            simp [pkOf])
          refine (take_yes (unhide H) i hil (by omega)).mono ?_
          rintro e W3 ⟨rfl, h3, g3⟩
          have F3 := hide ((unhide F).trans ((unhide H).below g3))
          have b4 : Below W3.heap.size W3 (W3.alloc (.cells (pkRow xs[i]).toArray 40)) := (Below.refl _ _).alloc (Nat.le_refl _) _
          have H4 := hide (h3.later b4)
          have F4 := hide ((unhide F3).trans (b4.mono (unhide F3).size))
          clear h3 g3 b4
          generalize keep (sameId xs[i].1.1) xs = ys at *
          have hg1 : ¬ ((i : Int) < 0) := by omega
          have hg2 : ¬ ((j : Int) ≤ (i : Int)) := by omega
          generalize xs[i] = x at *
          obtain ⟨⟨id, f, t, l⟩, dp, dc⟩ := x
          simp only [pkRow] at H4 F4
          go_wp2_with fail
          generalize W3.alloc (.cells #[.int .i64 id, .int .i64 f, .int .i64 t, .slice dp l.length dc] 40) = W4 at *
          by_cases hm1 : j = 1
          · have hD0 : doubleX ys 0 = 8 := by
              have : ys.length = 0 := by omega
              simp [doubleX, hasP, this]
            have hj9 : ¬ ((1 : Int) < (j : Int)) := by omega
            have hD := double_no (unhide H4) 0 (by rw [hD0]; decide)
            rw [hD0] at hD
            refine hD.mono ?_
            rintro e W5 ⟨rfl, rfl⟩
            have F5 := F4
            clear hD
            go_wp2_with fail
            refine (live4_calls _).mono ?_
            rintro e W6 ⟨rfl, b6⟩
            have F6 := hide ((unhide F5).trans (b6.mono (unhide F5).size))
            clear b6
            go_wp2
            go_ret
            exact ⟨by first | rfl | (simp; omega), unhide F6⟩
          · have hj9 : (1 : Int) < (j : Int) := by omega
            refine (double_yes (unhide H4) 0 (by omega) (by omega) (by omega) (by omega) (unhide hkb _ (List.getElem_mem _))).mono ?_
            rintro e W5 ⟨rfl, sp5, c5, hd5, h5, g5⟩
            have F5 := hide ((unhide F4).trans ((unhide H4).below g5))
            clear h5 g5
            go_wp2_with fail
            refine (live4_calls _).mono ?_
            rintro e W6 ⟨rfl, b6⟩
            have F6 := hide ((unhide F5).trans (b6.mono (unhide F5).size))
            clear b6
            go_wp2
            go_ret
            exact ⟨by first | rfl | (simp; omega), unhide F6⟩
      · have hm1 : min j 128 = 128 := by omega
        rw [hm1] at hs H
        have hlx := (unhide hs).len
        have hI : ¬ ((j : Int) ≤ 128) := by omega
        have hmin : min (j : Int) 128 = 128 := by omega
        go_wp2_with fail
        refine (len_calls (unhide H)).mono ?_
        rintro e w2 ⟨rfl, rfl⟩
        rw [hlx]
        go_wp2_with fail
        cases hP : hasP xs ii
        · have hgone : ii < 0 ∨ (128 : Int) ≤ ii := by
            simp only [hasP, Bool.and_eq_false_iff, decide_eq_false_iff_not] at hP
            omega
          refine (take_no (unhide H) ii hP).mono ?_
          rintro e W3 ⟨rfl, b3⟩
          have b4 : Below W3.heap.size W3 (W3.alloc zPk) := (Below.refl _ _).alloc (Nat.le_refl _) _
          have H4 := hide (((unhide H).later b3).later b4)
          have F4 := hide (((unhide F).trans (b3.mono (unhide F).size)).trans (b4.mono (Nat.le_trans (unhide F).size b3.size)))
          clear b3 b4
          go_wp2_with fail
          generalize W3.alloc zPk = W4 at *
          by_cases hneg : ii < 0
          · have hD0 : doubleX xs 0 = 6 := by simp [doubleX, hasP, hlx]
            have hD := double_no (unhide H4) 0 (by rw [hD0]; decide)
            rw [hD0] at hD
            refine hD.mono ?_
            rintro e W5 ⟨rfl, rfl⟩
            have F5 := F4
            clear hD
            go_wp2_with fail
            refine (live4_calls _).mono ?_
            rintro e W6 ⟨rfl, b6⟩
            have F6 := hide ((unhide F5).trans (b6.mono (unhide F5).size))
            clear b6
            go_wp2
            go_ret
            exact ⟨by first | rfl | (simp; omega), unhide F6⟩
          · have hge : (128 : Int) ≤ ii := by omega
            have hD0 : doubleX xs 0 = 6 := by simp [doubleX, hasP, hlx]
            have hD := double_no (unhide H4) 0 (by rw [hD0]; decide)
            rw [hD0] at hD
            refine hD.mono ?_
            rintro e W5 ⟨rfl, rfl⟩
            have F5 := F4
            clear hD
            go_wp2_with fail
            refine (live4_calls _).mono ?_
            rintro e W6 ⟨rfl, b6⟩
            have F6 := hide ((unhide F5).trans (b6.mono (unhide F5).size))
            clear b6
            go_wp2
            go_ret
            exact ⟨by first | rfl | (simp; omega), unhide F6⟩
        · have hii2 : 0 ≤ ii ∧ ii < (128 : Int) := by
            simp only [hasP, Bool.and_eq_true, decide_eq_true_eq] at hP
            omega
          obtain ⟨hi0, hi1⟩ := hii2
          obtain ⟨i, rfl⟩ := Int.eq_ofNat_of_zero_le hi0
          have hil : i < xs.length := by omega
          have hkl := keep_one (unhide hs) i hil
          have hkb := hide (show ∀ x ∈ keep (sameId xs[i].1.1) xs, x.1.2.2.2.length ≤ 140737488355328 from fun x hx' => by
            have hx2 := (List.mem_filter.1 (show x ∈ xs.filter _ from hx')).1
            obtain ⟨q, hq, rfl⟩ := List.getElem_of_mem hx2
            rw [(unhide hs).get q hq]
            simp [pkOf])
          refine (take_yes (unhide H) i hil (by omega)).mono ?_
          rintro e W3 ⟨rfl, h3, g3⟩
          have F3 := hide ((unhide F).trans ((unhide H).below g3))
          have b4 : Below W3.heap.size W3 (W3.alloc (.cells (pkRow xs[i]).toArray 40)) := (Below.refl _ _).alloc (Nat.le_refl _) _
          have H4 := hide (h3.later b4)
          have F4 := hide ((unhide F3).trans (b4.mono (unhide F3).size))
          clear h3 g3 b4
          generalize keep (sameId xs[i].1.1) xs = ys at *
          have hg1 : ¬ ((i : Int) < 0) := by omega
          have hg2 : ¬ ((128 : Int) ≤ (i : Int)) := by omega
          generalize xs[i] = x at *
          obtain ⟨⟨id, f, t, l⟩, dp, dc⟩ := x
          simp only [pkRow] at H4 F4
          go_wp2_with fail
          generalize W3.alloc (.cells #[.int .i64 id, .int .i64 f, .int .i64 t, .slice dp l.length dc] 40) = W4 at *
          refine (double_yes (unhide H4) 0 (by omega) (by omega) (by omega) (by omega) (unhide hkb _ (List.getElem_mem _))).mono ?_
          rintro e W5 ⟨rfl, sp5, c5, hd5, h5, g5⟩
          have F5 := hide ((unhide F4).trans ((unhide H4).below g5))
          clear h5 g5
          go_wp2_with fail
          refine (live4_calls _).mono ?_
          rintro e W6 ⟨rfl, b6⟩
          have F6 := hide ((unhide F5).trans (b6.mono (unhide F5).size))
          clear b6
          go_wp2
          go_ret
          exact ⟨by first | rfl | (simp; omega), unhide F6⟩

set_option maxRecDepth 100000 in
theorem lifted (os : Os) (started : os.Started) (H : Type) (enc : TypeId × Value → H) :
    ReturnsInHanded {} Try.checked os 7 .any (Rows.flightFullSpec.pre6 enc Try.prog Try.f7 Rows.flightFullRow.domain false) (Rows.flightFullSpec.post enc Try.prog Try.f7 false true false false) := by
  refine returnsInHanded_of_change_sized (C := Try.checked) own started (by kernel_rfl) Try.func7
    (ChangeSpec.witness6 (enc := enc) (C := Try.checked) false ⟨#[], #[.int .u8 0, .int .i64 0], []⟩ 8 (by kernel_rfl) (by kernel_rfl) (by kernel_rfl) (by kernel_rfl)) ?_
  intro W base args ds gs before hval0 hW hcnd hsz _
  have hval : ∀ (j : Nat) t v, Try.f7.params[j]? = some t → args[j]? = some v → Value.okWide Try.prog W .any base t v := hval0
  have hW' := hW
  obtain ⟨p, q, hA0, hV, rfl, hfz, hnd⟩ := hW
  have hA : DataW.TrodAll enc Try.prog W 0 (fun _ => true) true Try.f7.params.toList args.toList ds p := hA0
  rw [Try.params7] at hA hval
  obtain ⟨v0, vs0, d0, ds0, p0, q0, hargs, rfl, rfl, h0, r0⟩ := trodAll_cons hA
  obtain ⟨v1, vs1, d1, ds1, p1, q1, rfl, rfl, rfl, h1, r1⟩ := trodAll_cons r0
  obtain ⟨rfl, rfl, rfl⟩ := trodAll_nil r1
  obtain rfl : args = #[v0, v1] := by cases args; simp_all
  obtain ⟨rfl, rfl⟩ := trodVars_none hV
  obtain ⟨n0, rfl, rfl, rfl, w0⟩ := open_int Try.underlying5 (hval 0 5 v0 rfl rfl) h0
  obtain ⟨n0, rfl, hn0⟩ := u8_nat w0
  obtain ⟨n1, rfl, rfl, rfl, w1⟩ := open_int Try.underlying3 (hval 1 3 v1 rfl rfl) h1
  have hn1 := i64_bounds w1
  clear hA0 hval0
  refine (walk n0 n1 W hn0 hn1).mono fun e W' ⟨he, bel⟩ => ?_
  subst he
  exact ⟨_, rfl, _, _, _, [], _, [], hW', trodAll_mk1 (shut_bool Try.underlying4 _), (trodAll_cons_mk (shut_int Try.underlying5 w0) (trodAll_cons_mk (shut_int Try.underlying3 w1) trodAll_mk0)), rfl, bel.frame _, fun h => by cases h⟩

theorem proved : Rows.FlightFullSaid :=
  OpenClaim.holds_of_wide 7 Try.f7 rfl rfl rfl rfl rfl rfl rfl ⟨rfl, rfl, rfl, rfl, rfl⟩ rfl rfl rfl rfl rfl (by kernel_rfl) Try.func7 (by kernel_rfl)
    (of_decide_eq_true (by kernel_rfl)) (by unfold Func.isWrapper; first | (rw [if_pos (by decide +kernel)]; kernel_rfl) | (rw [if_neg (by decide +kernel)]; exact ⟨rfl, rfl⟩))
    (fun os started H enc _ => lifted os started H enc)
end Go.Proofs.Ytiipmgmmnjfefaa.flightFull
namespace Go.Proofs.Ytiipmgmmnjfefaa
theorem flightFull_holds : Rows.FlightFullSaid := flightFull.proved
#print axioms flightFull_holds
end Go.Proofs.Ytiipmgmmnjfefaa
