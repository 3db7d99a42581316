/- The contracts of a reader's oneWithin, positive, entrySize, data. -/
import Derived.Test.YtijcpmbfhfppmaaGreatDoorRhard
namespace Go.Proofs.YtijcpmbfhfppmaaGreatDoor
open Go.ChangeShapes Go.WideShapes Go.ChangeAt Go.RowKit

theorem within_E (R : Nat) (a : Option Addr) (c : Nat) (l : List Nat) (x y k : Nat) (w : World) (h : RdAt R w a c l k) (hl : l.length ≤ maxLen) :
    Calls Tryz.prog 232 #[.pointer (some ⟨R, 0, none⟩), .int .i64 (x : Int), .int .i64 (y : Int)] w (Ends R a c l w (fun n _ v => v = .int .i64 ((n : Nat) : Int)) (oneE l x y k)) := by
  have HL := hide hl
  have H := hide h
  clear h hl
  go_enter Tryz.func232, Tryz.ntmps232
  go_wp2_with fail
  by_cases hk : k < l.length
  · have hx := getD_lt (unhide H).bytes.lt k
    refine (one_ok R a c l k _ (unhide H) hk (unhide HL)).mono ?_
    rintro e W1 ⟨rfl, hr1, hg1⟩
    generalize hz : l.getD k 0 = z at *
    have HR := hide hr1
    have HG := hide hg1
    have HZ := hide hz
    clear hr1 hg1 hz
    go_wp2_with fail
    by_cases hw : x ≤ z ∧ z ≤ y
    · refine (within_yes z x y _ (by omega)).mono ?_
      rintro e W2 ⟨rfl, rfl⟩
      have HE := hide (show oneE l x y k = .ok (z, k + 1) by rw [oneE, if_pos hk, unhide HZ, if_pos hw])
      clear hw
      go_wp2
      go_ret
      rw [unhide HE]
      exact ⟨unhide HG, ⟨_, rfl, rfl⟩, unhide HR⟩
    · refine (within_no z x y _ (by omega)).mono ?_
      rintro e W2 ⟨rfl, rfl⟩
      have HE := hide (show oneE l x y k = .error 4 by rw [oneE, if_pos hk, unhide HZ, if_neg hw])
      clear hw
      go_wp2_with fail
      refine (giveUp_calls 4 _).mono ?_
      rintro e W2 ⟨rfl, rfl⟩
      go_wp2
      rw [unhide HE]
      exact ⟨rfl, unhide HG, rfl⟩
  · refine (one_short R a c l k _ (unhide H) (Nat.le_antisymm (unhide H).le (by omega))).mono ?_
    rintro e W1 ⟨rfl, hr1, hg1⟩
    have HE := hide (show oneE l x y k = .error 3 by rw [oneE, if_neg hk])
    go_wp2
    rw [unhide HE]
    exact ⟨rfl, hg1, rfl⟩
theorem positive_E (R : Nat) (a : Option Addr) (c : Nat) (l : List Nat) (k : Nat) (w : World) (h : RdAt R w a c l k) (hl : l.length ≤ maxLen) :
    Calls Tryz.prog 233 #[.pointer (some ⟨R, 0, none⟩)] w (Ends R a c l w (fun n _ v => v = .int .i64 ((n : Nat) : Int)) (posE l k)) := by
  have HL := hide hl
  have H := hide h
  clear h hl
  go_enter Tryz.func233, Tryz.ntmps233
  go_wp2_with fail
  refine (number_E R a c l k _ (unhide H) (unhide HL)).mono ?_
  rintro e W1 ⟨hg1, hm1⟩
  cases ht : takeE l k with
  | error x =>
    rw [ht] at hm1
    obtain rfl := hm1
    have HE := hide (show posE l k = .error x by rw [posE, ht])
    go_wp2
    rw [unhide HE]
    exact ⟨rfl, hg1, rfl⟩
  | ok p =>
    obtain ⟨n, k2⟩ := p
    rw [ht] at hm1
    obtain ⟨⟨_, rfl, rfl⟩, hr1⟩ := hm1
    by_cases h0 : n = 0
    · have HE := hide (show posE l k = .error 4 by rw [posE, ht]; simp only [if_pos h0])
      go_wp2_with fail
      refine (giveUp_calls 4 _).mono ?_
      rintro e W2 ⟨rfl, rfl⟩
      go_wp2
      rw [unhide HE]
      exact ⟨rfl, hg1, rfl⟩
    · have HE := hide (show posE l k = .ok (n, k2) by rw [posE, ht]; simp only [if_neg h0])
      go_wp2
      go_ret
      rw [unhide HE]
      exact ⟨hg1, ⟨_, rfl, rfl⟩, hr1⟩
theorem entrySize_E (R : Nat) (a : Option Addr) (c : Nat) (l : List Nat) (kd k : Nat) (w : World) (h : RdAt R w a c l k) (hl : l.length ≤ maxLen) :
    Calls Tryz.prog 235 #[.pointer (some ⟨R, 0, none⟩), .int .i64 (kd : Int)] w (Ends R a c l w (fun n _ v => v = .int .i64 ((n : Nat) : Int)) (sizeE l kd k)) := by
  have HL := hide hl
  have H := hide h
  clear h hl
  go_enter Tryz.func235, Tryz.ntmps235
  go_wp2_with fail
  refine (number_E R a c l k _ (unhide H) (unhide HL)).mono ?_
  rintro e W1 ⟨hg1, hm1⟩
  cases ht : takeE l k with
  | error x =>
    rw [ht] at hm1
    obtain rfl := hm1
    have HE := hide (show sizeE l kd k = .error x by rw [sizeE, ht])
    go_wp2
    rw [unhide HE]
    exact ⟨rfl, hg1, rfl⟩
  | ok p =>
    obtain ⟨n, k2⟩ := p
    rw [ht] at hm1
    obtain ⟨⟨_, rfl, rfl⟩, hr1⟩ := hm1
    by_cases h0 : kd = 1 ∧ 0 < n
    · have HE := hide (show sizeE l kd k = .error 4 by rw [sizeE, ht]; simp only [if_pos h0])
      obtain ⟨rfl, hn⟩ := h0
      go_wp2_with fail
      refine (giveUp_calls 4 _).mono ?_
      rintro e W2 ⟨rfl, rfl⟩
      go_wp2
      rw [unhide HE]
      exact ⟨rfl, hg1, rfl⟩
    · by_cases h1 : 2048 < n
      · have HE := hide (show sizeE l kd k = .error 6 by rw [sizeE, ht]; simp only [if_neg h0, if_pos h1])
        have hk : ¬ kd = 1 := fun e => h0 ⟨e, by omega⟩
        clear h0
        go_wp2_with fail
        refine (giveUp_calls 6 _).mono ?_
        rintro e W2 ⟨rfl, rfl⟩
        go_wp2
        rw [unhide HE]
        exact ⟨rfl, hg1, rfl⟩
      · have HE := hide (show sizeE l kd k = .ok (n, k2) by rw [sizeE, ht]; simp only [if_neg h0, if_neg h1])
        by_cases hk : kd = 1
        · have hn : n = 0 := by omega
          subst hk hn
          clear h0
          go_wp2
          go_ret
          rw [unhide HE]
          exact ⟨hg1, ⟨_, rfl, rfl⟩, hr1⟩
        · clear h0
          go_wp2
          go_ret
          rw [unhide HE]
          exact ⟨hg1, ⟨_, rfl, rfl⟩, hr1⟩
set_option maxHeartbeats 1000000 in
theorem data_E (R : Nat) (a : Option Addr) (c : Nat) (l : List Nat) (n k : Nat) (w : World) (h : RdAt R w a c l k) (hl : l.length ≤ 140737488355328) (hc : l.length ≤ c) (hz : a = none → c = 0) :
    Calls Tryz.prog 234 #[.pointer (some ⟨R, 0, none⟩), .int .i64 (n : Int)] w (Ends R a c l w (fun d w' v => ∃ sp m' c', v = .slice sp m' c' ∧ Hid ((d : List Nat).length = m') ∧ OwnB w.heap.size w' sp c' d) (dataE l n k)) := by
  have c0 := h.c0
  have c1 := h.c1
  have f1 := h.f1
  have hk := h.le
  have H := hide h
  clear h
  go_enter Tryz.func234, Tryz.ntmps234
  by_cases hs : l.length - k < n
  · have HE := hide (show dataE l n k = .error 3 by rw [dataE, if_pos hs])
    go_wp2_with fail
    go_quiet (fail)
    go_wp2_with fail
    refine (giveUp_calls 3 _).mono ?_
    rintro e W2 ⟨rfl, rfl⟩
    go_wp2
    rw [unhide HE]
    exact ⟨rfl, grown_drewN _ _ _, rfl⟩
  · have HE := hide (show dataE l n k = .ok ((l.drop k).take n, k + n) by rw [dataE, if_neg hs])
    have hsl : ∀ u, (Instr.slice 58 (.slice a l.length c) (some (.int .i64 (k : Int))) (some (.int .i64 ((k : Int) + (n : Int)))) none).run Tryz.prog u = .ok (.slice (slp a k c) n (c - k)) u := fun u => by
      have := run_slice_lh8 a l.length c k (k + n) (by omega) (by omega) u
      rw [Nat.add_sub_cancel_left] at this
      rw [← this, Int.natCast_add]
    have HB := hide ((((unhide H).bytes).drop k c hc).take n)
    have HLen := hide (show ((l.drop k).take n).length = n by rw [List.length_take, List.length_drop]; omega)
    have Hz := hide (show slp a k c = none → c - k = 0 by
      intro e
      unfold slp at e
      split at e
      · omega
      · cases a with
        | none => have := hz rfl; omega
        | some x => cases e)
    generalize slp a k c = p at *
    go_wp2_with fail
    go_quiet (fail)
    go_wp2_with fail
    have hadd : IntKind.i64.wrap ((k : Int) + (n : Int)) = (k : Int) + (n : Int) := by rw [IntKind.wrap_i64]; omega
    have HD := hide (show BytesAt (w.drewN nq).drew p ((l.drop k).take n) from ⟨(unhide HB).lt, (unhide HB).cell⟩)
    have HD' := hide (show BytesAt (w.drewN nq) p ((l.drop k).take n) from ⟨(unhide HB).lt, (unhide HB).cell⟩)
    go_region_held3 (fun w' => w'.cell? ⟨R, 0, none⟩ = some (.slice a l.length c) ∧ w'.cell? ⟨R, 1, none⟩ = some (.int .i64 (k : Int)) ∧ (Instr.slice 58 (.slice a l.length c) (some (.int .i64 (k : Int))) (some (.int .i64 ((k : Int) + (n : Int)))) none).run Tryz.prog w' = .ok (.slice p n (c - k)) w')
      (first
        | exact ⟨c0, c1, hsl _⟩
        | exact ⟨(hg3.cell_far ⟨R, 0, none⟩ (World.block_lt_of_cell? _ _ c0) (by intro e; cases e)).trans c0, (hg3.cell_far ⟨R, 1, none⟩ (World.block_lt_of_cell? _ _ c1) (by intro e; cases e)).trans c1, hsl _⟩)
      (first
        | (refine step_append8L rfl (.const (.slice none 0 0)) (.tmp 33) rfl w.heap.size none 0 0 [] rfl rfl (OwnB.ofNil _ _) p n (c - k) rfl ((l.drop k).take n) (unhide HLen) (by first | exact unhide HD | exact unhide HD') (unhide Hz) (by simp only [List.length_nil]; omega) (Nat.le_refl _) ?_; intro sp3 n3 k3 W3 hn3 ho3 hg3 hl3))
    rw [List.nil_append] at hn3 ho3
    have hb3 : Below w.heap.size w W3 := ⟨hg3.os, hg3.tape, hg3.output, hg3.size, fun j hj => hg3.block j hj (fun e => by cases e)⟩
    have hr3 := (unhide H).later hb3
    have f3 := hr3.f1
    have c3 := hr3.c1
    have HR4 := hide (hr3.moved (k + n) (by omega))
    have HG4 := hide (grown_trans (grown_below (some R) hb3) (grown_set W3 R 1 (.int .i64 ((k + n : Nat) : Int))))
    have HO4 := hide (ho3.far (grown_set W3 R 1 (.int .i64 ((k + n : Nat) : Int))) (unhide H).lt)
    rw [show (((k + n : Nat) : Int)) = (k : Int) + (n : Int) from Int.natCast_add k n] at HR4 HG4 HO4
    clear hb3 hr3 ho3 hg3 hl3
    go_wp2
    go_ret
    rw [unhide HE]
    exact ⟨unhide HG4, ⟨_, rfl, sp3, n3, k3, rfl, hn3, unhide HO4⟩, unhide HR4⟩

/-- An entry as a value. -/
abbrev entVal (k t i : Int) (a : Option Addr) (n c : Nat) : Value := .agg #[.int .i64 k, .int .i64 t, .int .i64 i, .slice a n c]
/-- An entry that was read, as a value. -/
def EntIs (base : Nat) (p : Nat × Nat × Nat × List Nat) (w : World) (v : Value) : Prop :=
  ∃ sp m c, v = entVal p.1 p.2.1 p.2.2.1 sp m c ∧ Hid (p.2.2.2.length = m) ∧ OwnB base w sp c p.2.2.2
end Go.Proofs.YtijcpmbfhfppmaaGreatDoor
