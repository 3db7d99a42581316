/- Next and All with the length apart. -/
import Derived.Test.YtijcpmbfhfppmaaGreatDoorAll
import Derived.Test.YtijcpmbfhfppmaaGreatDoorAid8
namespace Go.Proofs.YtijcpmbfhfppmaaGreatDoor
open Go.ChangeShapes Go.WideShapes Go.ChangeAt Go.RowKit

theorem next_any' (a : Option Addr) (n c : Nat) (l : List Nat) (k : Nat) (kk : Int) (w : World) (hkk : kk = (k : Int)) (hn : l.length = n) (hl : l.length ≤ maxLen) (hc : l.length ≤ c) (hk : k ≤ l.length) (hb : BytesAt w a l) :
    Calls Tryz.prog 132 #[.slice a n c, .int .i64 kk] w fun e w' => Below w.heap.size w w' ∧
      ((0 < nextE l k ∧ e = .returned (.tuple #[.slice none 0 0, .int .i64 0, .int .i64 (nextE l k : Nat)])) ∨
       (nextE l k = 0 ∧ ∃ g, e = .returned (.tuple #[.slice (some ⟨g, 0, none⟩) (nextH l k).length (nextH l k).length, .int .i64 ((k + 8 + (nextH l k).length : Nat) : Int), .int .i64 0]) ∧ w.heap.size ≤ g ∧ w'.heap[g]? = some (.cells ((nextH l k).map byteV).toArray 5 (0, 0)))) := by
  subst hn; subst hkk; exact next_any a c l k w hl hc hk hb
/-- Next at a place where there is an error. -/
theorem next_err' (a : Option Addr) (n c : Nat) (l : List Nat) (k : Nat) (kk : Int) (w : World) (hkk : kk = (k : Int)) (hn : l.length = n) (hl : l.length ≤ maxLen) (hc : l.length ≤ c) (hk : k ≤ l.length) (hb : BytesAt w a l) (E : Nat) (he : nextE l k = E) (hE : 0 < E) :
    Calls Tryz.prog 132 #[.slice a n c, .int .i64 kk] w fun e w' => e = .returned (.tuple #[.slice none 0 0, .int .i64 0, .int .i64 (E : Int)]) ∧ Below w.heap.size w w' := by
  refine (next_any' a n c l k kk w hkk hn hl hc hk hb).mono ?_
  rintro e w' ⟨hbw, ⟨_, rfl⟩ | ⟨h0, _⟩⟩
  · exact ⟨by rw [he], hbw⟩
  · omega
theorem all_calls' (a : Option Addr) (n c : Nat) (l : List Nat) (w : World) (hn : l.length = n) (hl : l.length ≤ 1099511627776) (hc : l.length ≤ c) (hb : BytesAt w a l) :
    Calls Tryz.prog 100 #[.slice a n c] w fun e w' => ∃ v hs k, e = .returned (.tuple #[v, .int .i64 ((k : Nat) : Int)]) ∧ Below w.heap.size w w' ∧ OwnS w.heap.size w' v hs ∧ Steps l 0 hs k ∧ 0 < nextE l k ∧ k ≤ l.length := by
  subst hn; exact all_calls a c l w hl hc hb
/-- All, where what comes out is known. -/
theorem all_known (a : Option Addr) (n c : Nat) (l : List Nat) (hs : List (List Nat)) (k : Nat) (w : World) (hn : l.length = n) (hl : l.length ≤ 1099511627776) (hc : l.length ≤ c) (hb : BytesAt w a l) (hst : Steps l 0 hs k) (he : 0 < nextE l k) :
    Calls Tryz.prog 100 #[.slice a n c] w fun e w' => ∃ sp c', e = .returned (.tuple #[.slice sp hs.length c', .int .i64 (k : Int)]) ∧ Below w.heap.size w w' ∧ OwnS w.heap.size w' (.slice sp hs.length c') hs := by
  refine (all_calls' a n c l w hn hl hc hb).mono ?_
  rintro e w' ⟨v, hs', k', rfl, hbw, ho, hst', he', _⟩
  obtain ⟨rfl, rfl⟩ := Steps.uniq hst he hst' he'
  obtain ⟨sp, c', rfl⟩ := ho.form
  exact ⟨sp, c', rfl, hbw, ho⟩
/-- A frame that is cut short is none. -/
theorem cut_next (l : List Nat) (n : Nat) (hl : l.length ≤ 65536) (hn : n < 8 + l.length) : nextE ((frameB l).take n) 0 = 3 := by
  unfold nextE
  have hlen : ((frameB l).take n).length = n := by rw [List.length_take, frameB_length]; omega
  rw [hlen, Nat.sub_zero, List.drop_zero]
  by_cases h8 : n < 8
  · rw [if_pos h8]
  · have hd : (frameB l).drop 0 = word4 l.length ++ (word4 (fsum l.length l) ++ (l ++ [])) := by rw [List.drop_zero, List.append_nil]; rfl
    have hnum : num4 ((frameB l).take n) = l.length := by
      have e : num4 (((frameB l).take n).take 4) = num4 ((frameB l).take 4) := by rw [List.take_take, Nat.min_eq_left (by omega)]
      rw [num4_take, num4_take] at e
      rw [e]
      exact num4_word4 l.length _
    rw [if_neg h8, hnum, if_neg (by omega), if_pos (by omega)]
end Go.Proofs.YtijcpmbfhfppmaaGreatDoor
