/- The contract of tollgateref01.Next: what a frame at a place holds, or the error. -/
import Derived.Test.YtagncghpfdjkmaaGreatDoorB28
import Derived.Test.YtagncghpfdjkmaaGreatDoorB01
namespace Go.Proofs.YtagncghpfdjkmaaGreatDoor
open Go.ChangeShapes Go.WideShapes Go.ChangeAt Go.RowKit

theorem refNext_short (a : Option Addr) (c : Nat) (l : List Nat) (k : Nat) (w : World) (hl : l.length ≤ maxLen) (hk : k ≤ l.length) (h : l.length - k < 8) :
    Calls Tryz.prog 63 #[.slice a l.length c, .int .i64 (k : Int)] w fun e w' => e = .returned (.tuple #[.slice none 0 0, .int .i64 0, .int .i64 3]) ∧ w' = w := by
  unfold maxLen at hl
  have h0 : ¬ (k : Int) < 0 := by omega
  have h1 : ¬ (l.length : Int) < (k : Int) := by omega
  go_enter Tryz.func63, Tryz.ntmps63
  go_wp2
  go_ret3
  exact ⟨rfl, rfl⟩
theorem small_room (n : Nat) (h : n ≤ 65536) : ([] : List Nat).length + n ≤ 140737488355328 := by simp only [List.length_nil]; omega
theorem number_calls' (a : Option Addr) (c : Nat) (l : List Nat) (k : Nat) (kk : Int) (w : World) (hkk : kk = (k : Int)) (hl : l.length ≤ maxLen) (hk : k + 4 ≤ l.length) (hb : BytesAt w a l) :
    Calls Tryz.prog 109 #[.slice a l.length c, .int .i64 kk] w fun e w' => e = .returned (.int .i64 ((num4 (l.drop k) : Nat) : Int)) ∧ w' = w := by
  subst hkk; exact number_calls a c l k w hl hk hb

set_option maxHeartbeats 1000000 in
theorem refNext_calls (a : Option Addr) (c : Nat) (l : List Nat) (k : Nat) (w : World) (hl : l.length ≤ 140737488355328) (hc : l.length ≤ c) (hz : a = none → c = 0) (hk : k ≤ l.length) (h8 : ¬ l.length - k < 8) (hb : BytesAt w a l) :
    Calls Tryz.prog 63 #[.slice a l.length c, .int .i64 (k : Int)] w fun e w' => Below w.heap.size w w' ∧
      ((0 < nextE l k ∧ e = .returned (.tuple #[.slice none 0 0, .int .i64 0, .int .i64 (nextE l k : Nat)])) ∨
       (nextE l k = 0 ∧ ∃ sp c', e = .returned (.tuple #[.slice sp (nextH l k).length c', .int .i64 ((k + 8 + (nextH l k).length : Nat) : Int), .int .i64 0]) ∧ OwnB w.heap.size w' sp c' (nextH l k))) := by
  have hl' : l.length ≤ maxLen := by simp only [maxLen]; omega
  have h0 : ¬ (k : Int) < 0 := by omega
  have h1 : ¬ (l.length : Int) < (k : Int) := by omega
  have h2 : ¬ (l.length : Int) - (k : Int) < 8 := by omega
  have HL := hide hl'
  have s1 := run_slice_lh8 a l.length c k (k + 4) (by omega) (by omega)
  have B1 := hide ((hb.drop k c hc).take 4)
  have hp0 : slp a k c = none → a = none := by unfold slp; split <;> simp
  have HB := hide hb
  have e1 : ((k + 4 : Nat) : Int) = (k : Int) + 4 := by omega
  rw [e1] at s1
  rw [show k + 4 - k = 4 by omega] at s1
  generalize hp1 : slp a k c = p1 at *
  clear e1 hb hp1 hl' hp0
  have HE : Hid (nextE l k = if 65536 < num4 (l.drop k) then 6 else if l.length - k - 8 < num4 (l.drop k) then 3
    else if Crc.ext (Crc.ext 0 ((l.drop k).take 4)) ((l.drop (k + 8)).take (num4 (l.drop k))) = num4 (l.drop (k + 4)) then 0 else 5) := by
    show _ = _
    rw [nextE, if_neg h8]
  have HH : Hid (nextH l k = (l.drop (k + 8)).take (num4 (l.drop k))) := by show _ = _; rw [nextH]
  have hn4 := num4_lt (fun c hc => (unhide HB).lt c (List.mem_of_mem_drop hc) : ∀ c ∈ l.drop k, c < 256)
  have hsm4 := num4_lt (fun c hc => (unhide HB).lt c (List.mem_of_mem_drop hc) : ∀ c ∈ l.drop (k + 4), c < 256)
  have L1 := hide (show ((l.drop k).take 4).length = 4 by simp; omega)
  have L1m := hide (show ((l.drop k).take 4).length ≤ maxLen by simp [maxLen]; omega)
  go_enter Tryz.func63, Tryz.ntmps63
  go_wp2_with fail
  refine (number_calls _ _ l k _ (unhide HL) (by omega) (unhide HB)).mono ?_
  rintro e w1 ⟨rfl, rfl⟩
  generalize hnn : num4 (l.drop k) = n at *
  have Hn := hide hnn
  clear hnn
  by_cases hA : 65536 < n
  · have HE' := hide ((unhide HE).trans (if_pos hA))
    go_wp2
    go_ret3
    refine ⟨Below.refl _ _, Or.inl ⟨by rw [unhide HE']; omega, by rw [unhide HE']; rfl⟩⟩
  · have HE' := hide ((unhide HE).trans (if_neg hA))
    have hA' : ¬ 65536 < (n : Int) := by omega
    by_cases hC : l.length - k - 8 < n
    · have HE2 := hide ((unhide HE').trans (if_pos hC))
      have hC' : (l.length : Int) - (k : Int) - 8 < (n : Int) := by omega
      go_wp2
      go_ret3
      refine ⟨Below.refl _ _, Or.inl ⟨by rw [unhide HE2]; omega, by rw [unhide HE2]; rfl⟩⟩
    · have HE2 := hide ((unhide HE').trans (if_neg hC))
      have hC' : ¬ (l.length : Int) - (k : Int) - 8 < (n : Int) := by omega
      have s3 := run_slice_lh8 a l.length c (k + 8) (k + 8 + n) (by omega) (by omega)
      have B3 := hide (((unhide HB).drop (k + 8) c hc).take n)
      have hp0 : slp a (k + 8) c = none → c - (k + 8) = 0 := by
        unfold slp
        split
        · omega
        · intro hh
          have := hz (by simpa using hh)
          omega
      have Hp := hide hp0
      have e3 : ((k + 8 : Nat) : Int) = (k : Int) + 8 := by omega
      have e4 : ((k + 8 + n : Nat) : Int) = (k : Int) + 8 + (n : Int) := by omega
      rw [e3, e4] at s3
      rw [show k + 8 + n - (k + 8) = n by omega] at s3
      generalize hp3 : slp a (k + 8) c = p3 at *
      have hL3 : ((l.drop (k + 8)).take n).length = n := by simp; omega
      have L3 := hide hL3
      have L3m := hide (show ((l.drop (k + 8)).take n).length ≤ maxLen by rw [hL3]; simp [maxLen]; omega)
      have Hz := hide hz
      have hX : (k : Int) + 8 + (n : Int) ≤ (l.length : Int) := by omega
      have hY : (n : Int) ≤ 65536 := by omega
      have hl47 : (l.length : Int) ≤ 140737488355328 := by omega
      have HA := hide hA
      have t1 : decide (65536 < (n : Int)) = false := by simp; omega
      have t2 : decide ((l.length : Int) - (k : Int) - 8 < (n : Int)) = false := by simp; omega
      clear e3 e4 hp3 hL3 hp0 hz hC hC' h8 h0 h1 h2 hk hc hl hA hA' hn4
      generalize hXX : (l.drop (k + 8)).take n = X at *
      clear hXX
      have o1 := hide (OwnB.empty w1 w1.heap.size (Nat.le_refl _))
      have b1 := hide (show Below w1.heap.size w1 (w1.alloc (.cells #[] 5)) from (Below.refl _ _).alloc (Nat.le_refl _) _)
      go_wp2_with (at_builtin; refine wpList_append8 rfl (.tmp 34) (.tmp 42) rfl w1.heap.size (some ⟨w1.heap.size, 0, none⟩) 0 0 [] rfl rfl (by exact unhide o1) p3 n _ rfl X (unhide L3) (by exact (unhide B3).later (unhide b1)) (unhide Hp) (small_room n (Nat.le_of_not_lt (unhide HA))) ?b1 ?_; rotate_right; intro sp1 n1 k1 W1 hn1 ho1 hgr1 hbl1)
      case b1 => simp
      have bW1 := (unhide b1).trans hbl1
      rw [List.nil_append] at ho1 hn1
      have HO1 := hide ho1
      have HOB := hide ho1.bytes
      have BW1 := hide bW1
      have B1W := hide ((unhide B1).later bW1)
      have HBW := hide ((unhide HB).later bW1)
      clear hgr1 hbl1 ho1 bW1
      refine (refSum_calls' _ 4 _ ((l.drop k).take 4) _ (unhide L1) (unhide L1m) (unhide B1W)).mono ?_
      rintro e W2 ⟨rfl, rfl⟩
      go_wp2_with fail
      refine (refExtend_calls' _ _ _ _ X _ (unhide hn1) (Crc.ext_lt _ _) (unhide L3m) (unhide HOB)).mono ?_
      rintro e W3 ⟨rfl, rfl⟩
      have hel := Crc.ext_lt (Crc.ext 0 ((l.drop k).take 4)) X
      have hnu := (unhide hn1).symm.trans (unhide L3)
      generalize hss : Crc.ext (Crc.ext 0 ((l.drop k).take 4)) X = ss at *
      clear hss
      go_wp2_with fail
      refine (number_calls' _ _ l (k + 4) _ _ (by omega) (unhide HL) (by omega) (unhide HBW)).mono ?_
      rintro e W4 ⟨rfl, rfl⟩
      generalize hsm : num4 (l.drop (k + 4)) = sm at *
      clear hsm
      by_cases hD : ss = sm
      · have HE3 := hide ((unhide HE2).trans (if_pos hD))
        have hD' : ((ss : Int) != (sm : Int)) = false := by rw [hD]; simp
        have HHn := hide ((congrArg List.length (unhide HH)).trans (unhide L3))
        have Hnu := hide hnu
        clear hnu
        go_wp2
        go_ret3
        refine ⟨unhide BW1, Or.inr ⟨unhide HE3, sp1, k1, ?_, by rw [unhide HH]; exact unhide HO1⟩⟩
        rw [unhide HHn]
        rfl
      · have HE3 := hide ((unhide HE2).trans (if_neg hD))
        have hD' : ((ss : Int) != (sm : Int)) = true := by simp; omega
        have Hnu := hide hnu
        clear hnu
        go_wp2
        go_ret3
        refine ⟨unhide BW1, Or.inl ⟨by rw [unhide HE3]; omega, by rw [unhide HE3]; rfl⟩⟩
end Go.Proofs.YtagncghpfdjkmaaGreatDoor
