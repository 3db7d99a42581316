/- The contracts of the document's answers of layer 2: Number, TakeNumber. -/
import Derived.Test.YtnclkkoefejjiaaRfn0
import Derived.Test.YtnclkkoefejjiaaTak
namespace Go.Proofs.Ytnclkkoefejjiaa
open Go.ChangeShapes Go.WideShapes Go.ChangeAt Go.RowKit

theorem refTake_arg (a : Option Addr) (m c : Nat) (l : List Nat) (k : Int) (w : World) (hm : l.length = m) (h : ¬ (0 ≤ k ∧ k ≤ (l.length : Int))) :
    Calls Try.prog 63 #[.slice a m c, .int .i64 k] w fun e w' => e = .returned (.tuple #[.int .i64 0, .int .i64 0, .int .i64 2]) ∧ w' = w := by
  subst hm
  by_cases h0 : 0 ≤ k
  · have h1 : ¬ k ≤ (l.length : Int) := fun h1 => h ⟨h0, h1⟩
    clear h
    go_enter Try.func63, Try.ntmps63
    go_wp2
    go_ret3
    exact ⟨rfl, rfl⟩
  · clear h
    go_enter Try.func63, Try.ntmps63
    go_wp2
    go_ret3
    exact ⟨rfl, rfl⟩
/-- What TakeNumber answers. -/
def takeV (l : List Nat) (k : Nat) : Value :=
  if (takeN l k).1 = 0 then .tuple #[.int .i64 ((takeN l k).2.1 : Int), .int .i64 ((takeN l k).2.2 : Int), .int .i64 0] else .tuple #[.int .i64 0, .int .i64 0, .int .i64 ((takeN l k).1 : Int)]
set_option maxRecDepth 20000 in
set_option maxHeartbeats 1000000 in
theorem refTake_calls (a : Option Addr) (M c : Nat) (l : List Nat) (k : Nat) (kk : Int) (w : World) (hM : l.length = M) (hkk : kk = (k : Int)) (hl : l.length ≤ 140737488355328) (hk : k ≤ l.length) (hb : BytesAt w a l) :
    Calls Try.prog 63 #[.slice a M c, .int .i64 kk] w fun e w' => e = .returned (takeV l k) ∧ w' = w := by
  subst hM hkk
  have HB := hide hb
  clear hb
  have hk0 := hk
  go_enter Try.func63, Try.ntmps63
  go_wp2
  clear hk
  go_loop [7, 8, 9] (fun x u i => ∃ (m s : Nat), s ≤ 6 ∧ i = .int .i64 (s : Int) ∧ u = .int .i64 ((128 ^ s : Nat) : Int) ∧ x = .int .i64 (m : Int) ∧ m < 128 ^ s ∧ Hid (takeF l (6 - s) s m (k + s) = takeN l k)) (fun _ _ i => 6 - (intOf i).toNat)
  case atStart => exact ⟨0, 0, by omega, rfl, rfl, rfl, by decide, rfl⟩
  case round =>
    obtain ⟨m, s, hs, rfl, rfl, rfl, hm, heq⟩ := hrel
    by_cases hk : k + s < l.length
    · obtain ⟨b, off, rfl, hc⟩ := (unhide HB).cell (k + s) hk
      have hx := getD_lt (unhide HB).lt (k + s)
      generalize hxx : l.getD (k + s) 0 = x at *
      have HX := hide hxx
      clear hxx
      rcases (by omega : s = 0 ∨ s = 1 ∨ s = 2 ∨ s = 3 ∨ s = 4 ∨ s = 5 ∨ s = 6) with rfl | rfl | rfl | rfl | rfl | rfl | rfl
      · obtain ⟨n, hn⟩ : ∃ n, n = m + x % 128 * 128 ^ 0 := ⟨_, rfl⟩
        have hA : (m : Int) + ((x : Int) % 128) = (n : Int) := by rw [hn]; simp only [Nat.reducePow]; omega
        have hm' : m < 1 := hm
        simp only [Nat.add_zero] at hc
        have hlt : n < 128 := by rw [hn]; simp only [Nat.reducePow]; omega
        have HN := hide hn
        clear hn hm
        by_cases h128 : 128 ≤ x
        · have ht := hide ((takeF_more 5 0 m (unhide HX) hk h128 (by decide)).symm.trans (unhide heq))
          rw [← unhide HN] at ht
          go_wp2
          exact ⟨⟨n, 1, by omega, rfl, rfl, rfl, by simp only [Nat.reducePow]; exact hlt, by rw [show k + 1 = k + 0 + 1 by omega]; exact unhide ht⟩, by simp [intOf]⟩
        · have hxx : x % 128 = x := by omega
          rw [hxx] at HN
          by_cases hb : 1099511627776 < n
          · omega
          · have ht := hide ((takeF_ok 5 0 m (unhide HX) hk h128 (fun h => absurd h.2 (by decide)) (by rw [← unhide HN]; exact hb)).symm.trans (unhide heq))
            rw [← unhide HN] at ht
            go_wp2
            all_goals (go_ret3; exact ⟨by rw [takeV, ← unhide ht]; rfl, rfl⟩)
      · obtain ⟨n, hn⟩ : ∃ n, n = m + x % 128 * 128 ^ 1 := ⟨_, rfl⟩
        have hA : (m : Int) + ((x : Int) % 128 * 128) = (n : Int) := by rw [hn]; simp only [Nat.reducePow]; omega
        have hm' : m < 128 := hm
        have hlt : n < 16384 := by rw [hn]; simp only [Nat.reducePow]; omega
        have HN := hide hn
        clear hn hm
        by_cases h128 : 128 ≤ x
        · have ht := hide ((takeF_more 4 1 m (unhide HX) hk h128 (by decide)).symm.trans (unhide heq))
          rw [← unhide HN] at ht
          go_wp2
          exact ⟨⟨n, 2, by omega, rfl, rfl, rfl, by simp only [Nat.reducePow]; exact hlt, by rw [show k + 2 = k + 1 + 1 by omega]; exact unhide ht⟩, by simp [intOf]⟩
        · have hxx : x % 128 = x := by omega
          rw [hxx] at HN
          by_cases h0 : x = 0
          · have ht := hide ((takeF_form 4 1 m (unhide HX) hk h0 (by decide)).symm.trans (unhide heq))
            go_wp2
            go_ret3
            exact ⟨by rw [takeV, ← unhide ht]; rfl, rfl⟩
          · by_cases hb : 1099511627776 < n
            · omega
            · have ht := hide ((takeF_ok 4 1 m (unhide HX) hk h128 (fun h => h0 h.1) (by rw [← unhide HN]; exact hb)).symm.trans (unhide heq))
              rw [← unhide HN] at ht
              go_wp2
              all_goals (go_ret3; exact ⟨by rw [takeV, ← unhide ht]; rfl, rfl⟩)
      · obtain ⟨n, hn⟩ : ∃ n, n = m + x % 128 * 128 ^ 2 := ⟨_, rfl⟩
        have hA : (m : Int) + ((x : Int) % 128 * 16384) = (n : Int) := by rw [hn]; simp only [Nat.reducePow]; omega
        have hm' : m < 16384 := hm
        have hlt : n < 2097152 := by rw [hn]; simp only [Nat.reducePow]; omega
        have HN := hide hn
        clear hn hm
        by_cases h128 : 128 ≤ x
        · have ht := hide ((takeF_more 3 2 m (unhide HX) hk h128 (by decide)).symm.trans (unhide heq))
          rw [← unhide HN] at ht
          go_wp2
          exact ⟨⟨n, 3, by omega, rfl, rfl, rfl, by simp only [Nat.reducePow]; exact hlt, by rw [show k + 3 = k + 2 + 1 by omega]; exact unhide ht⟩, by simp [intOf]⟩
        · have hxx : x % 128 = x := by omega
          rw [hxx] at HN
          by_cases h0 : x = 0
          · have ht := hide ((takeF_form 3 2 m (unhide HX) hk h0 (by decide)).symm.trans (unhide heq))
            go_wp2
            go_ret3
            exact ⟨by rw [takeV, ← unhide ht]; rfl, rfl⟩
          · by_cases hb : 1099511627776 < n
            · omega
            · have ht := hide ((takeF_ok 3 2 m (unhide HX) hk h128 (fun h => h0 h.1) (by rw [← unhide HN]; exact hb)).symm.trans (unhide heq))
              rw [← unhide HN] at ht
              go_wp2
              all_goals (go_ret3; exact ⟨by rw [takeV, ← unhide ht]; rfl, rfl⟩)
      · obtain ⟨n, hn⟩ : ∃ n, n = m + x % 128 * 128 ^ 3 := ⟨_, rfl⟩
        have hA : (m : Int) + ((x : Int) % 128 * 2097152) = (n : Int) := by rw [hn]; simp only [Nat.reducePow]; omega
        have hm' : m < 2097152 := hm
        have hlt : n < 268435456 := by rw [hn]; simp only [Nat.reducePow]; omega
        have HN := hide hn
        clear hn hm
        by_cases h128 : 128 ≤ x
        · have ht := hide ((takeF_more 2 3 m (unhide HX) hk h128 (by decide)).symm.trans (unhide heq))
          rw [← unhide HN] at ht
          go_wp2
          exact ⟨⟨n, 4, by omega, rfl, rfl, rfl, by simp only [Nat.reducePow]; exact hlt, by rw [show k + 4 = k + 3 + 1 by omega]; exact unhide ht⟩, by simp [intOf]⟩
        · have hxx : x % 128 = x := by omega
          rw [hxx] at HN
          by_cases h0 : x = 0
          · have ht := hide ((takeF_form 2 3 m (unhide HX) hk h0 (by decide)).symm.trans (unhide heq))
            go_wp2
            go_ret3
            exact ⟨by rw [takeV, ← unhide ht]; rfl, rfl⟩
          · by_cases hb : 1099511627776 < n
            · omega
            · have ht := hide ((takeF_ok 2 3 m (unhide HX) hk h128 (fun h => h0 h.1) (by rw [← unhide HN]; exact hb)).symm.trans (unhide heq))
              rw [← unhide HN] at ht
              go_wp2
              all_goals (go_ret3; exact ⟨by rw [takeV, ← unhide ht]; rfl, rfl⟩)
      · obtain ⟨n, hn⟩ : ∃ n, n = m + x % 128 * 128 ^ 4 := ⟨_, rfl⟩
        have hA : (m : Int) + ((x : Int) % 128 * 268435456) = (n : Int) := by rw [hn]; simp only [Nat.reducePow]; omega
        have hm' : m < 268435456 := hm
        have hlt : n < 34359738368 := by rw [hn]; simp only [Nat.reducePow]; omega
        have HN := hide hn
        clear hn hm
        by_cases h128 : 128 ≤ x
        · have ht := hide ((takeF_more 1 4 m (unhide HX) hk h128 (by decide)).symm.trans (unhide heq))
          rw [← unhide HN] at ht
          go_wp2
          exact ⟨⟨n, 5, by omega, rfl, rfl, rfl, by simp only [Nat.reducePow]; exact hlt, by rw [show k + 5 = k + 4 + 1 by omega]; exact unhide ht⟩, by simp [intOf]⟩
        · have hxx : x % 128 = x := by omega
          rw [hxx] at HN
          by_cases h0 : x = 0
          · have ht := hide ((takeF_form 1 4 m (unhide HX) hk h0 (by decide)).symm.trans (unhide heq))
            go_wp2
            go_ret3
            exact ⟨by rw [takeV, ← unhide ht]; rfl, rfl⟩
          · by_cases hb : 1099511627776 < n
            · omega
            · have ht := hide ((takeF_ok 1 4 m (unhide HX) hk h128 (fun h => h0 h.1) (by rw [← unhide HN]; exact hb)).symm.trans (unhide heq))
              rw [← unhide HN] at ht
              go_wp2
              all_goals (go_ret3; exact ⟨by rw [takeV, ← unhide ht]; rfl, rfl⟩)
      · obtain ⟨n, hn⟩ : ∃ n, n = m + x % 128 * 128 ^ 5 := ⟨_, rfl⟩
        have hA : (m : Int) + ((x : Int) % 128 * 34359738368) = (n : Int) := by rw [hn]; simp only [Nat.reducePow]; omega
        have hm' : m < 34359738368 := hm
        have hlt : n < 4398046511104 := by rw [hn]; simp only [Nat.reducePow]; omega
        have HN := hide hn
        clear hn hm
        by_cases h128 : 128 ≤ x
        · have ht := hide ((takeF_last 5 m (unhide HX) hk h128).symm.trans (unhide heq))
          go_wp2
          exact ⟨⟨n, 6, by omega, rfl, rfl, rfl, by simp only [Nat.reducePow]; exact hlt, by rw [← unhide ht]; rfl⟩, by simp [intOf]⟩
        · have hxx : x % 128 = x := by omega
          rw [hxx] at HN
          by_cases h0 : x = 0
          · have ht := hide ((takeF_form 0 5 m (unhide HX) hk h0 (by decide)).symm.trans (unhide heq))
            go_wp2
            go_ret3
            exact ⟨by rw [takeV, ← unhide ht]; rfl, rfl⟩
          · by_cases hb : 1099511627776 < n
            · have ht := hide ((takeF_big 0 5 m (unhide HX) hk h128 (fun h => h0 h.1) (by rw [← unhide HN]; exact hb)).symm.trans (unhide heq))
              go_wp2
              go_ret3
              exact ⟨by rw [takeV, ← unhide ht]; rfl, rfl⟩
            · have ht := hide ((takeF_ok 0 5 m (unhide HX) hk h128 (fun h => h0 h.1) (by rw [← unhide HN]; exact hb)).symm.trans (unhide heq))
              rw [← unhide HN] at ht
              go_wp2
              all_goals (go_ret3; exact ⟨by rw [takeV, ← unhide ht]; rfl, rfl⟩)
      · have ht := hide (show (6, 0, k + 6) = takeN l k from unhide heq)
        go_wp2
        go_ret3
        exact ⟨by rw [takeV, ← unhide ht]; rfl, rfl⟩
    · by_cases h6 : s = 6
      · subst h6
        have ht := hide (show (6, 0, k + 6) = takeN l k from unhide heq)
        go_wp2
        go_ret3
        exact ⟨by rw [takeV, ← unhide ht]; rfl, rfl⟩
      · have ht := hide (show (3, 0, k + s) = takeN l k by
          rw [← unhide heq]
          obtain ⟨f, hf⟩ : ∃ f, 6 - s = f + 1 := ⟨5 - s, by omega⟩
          rw [hf, takeF_short _ _ _ hk])
        go_wp2
        go_ret3
        exact ⟨by rw [takeV, ← unhide ht]; rfl, rfl⟩
end Go.Proofs.Ytnclkkoefejjiaa
