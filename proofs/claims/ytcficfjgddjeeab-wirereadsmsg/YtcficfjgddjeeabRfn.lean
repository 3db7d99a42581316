/- The contracts of the document's answers of layer 2: Number, TakeNumber. -/
import Derived.Test.YtcficfjgddjeeabWir
import Derived.Test.YtcficfjgddjeeabTak
namespace Go.Proofs.Ytcficfjgddjeeab
open Go.ChangeShapes Go.WideShapes Go.ChangeAt Go.RowKit

theorem refNumber_no (n : Int) (w : World) (h : ¬ (0 ≤ n ∧ n ≤ 1099511627776)) :
    Calls Try.prog 52 #[.int .i64 n] w fun e w' => e = .returned (.tuple #[.slice none 0 0, .int .i64 2]) ∧ w' = w := by
  by_cases h0 : 0 ≤ n
  · have h1 : ¬ n ≤ 1099511627776 := fun h1 => h ⟨h0, h1⟩
    clear h
    go_enter Try.func52, Try.ntmps52
    go_wp2
    go_ret2
    exact ⟨rfl, rfl⟩
  · clear h
    go_enter Try.func52, Try.ntmps52
    go_wp2
    go_ret2
    exact ⟨rfl, rfl⟩
set_option maxRecDepth 20000 in
set_option maxHeartbeats 1000000 in
theorem refNumber_yes (n : Nat) (w : World) (hn : n ≤ 1099511627776) :
    Calls Try.prog 52 #[.int .i64 (n : Int)] w fun e w' => ∃ sp n' c', e = .returned (.tuple #[.slice sp n' c', .int .i64 0]) ∧ Hid ((numB n).length = n') ∧ OwnB w.heap.size w' sp c' (numB n) ∧ Below w.heap.size w w' := by
  have HLen := hide (show (numB n).length ≤ 2199023255553 by have := (numB_length n).2; omega)
  have o1 := hide (OwnB.empty w w.heap.size (Nat.le_refl _))
  have b1 := hide (show Below w.heap.size w (w.alloc (.cells #[] 5)) from (Below.refl _ _).alloc (Nat.le_refl _) _)
  go_enter Try.func52, Try.ntmps52
  go_wp2
  go_loopw [0, 4] (fun i v wr => ∃ (sp' : Option Addr) (n' c' : Nat) (l' : List Nat) (m : Nat), m ≤ 1099511627776 ∧ v = .slice sp' n' c' ∧ i = .int .i64 (m : Int) ∧ Hid (l'.length = n') ∧ Hid (OwnB w.heap.size wr sp' c' l') ∧ Hid (l' ++ numB m = numB n) ∧ Hid (Below w.heap.size w wr)) (fun i _ _ => (intOf i).toNat)
  case atStart => exact ⟨_, 0, 0, [], n, hn, rfl, rfl, rfl, unhide o1, by simp [Hid], unhide b1⟩
  case round =>
    obtain ⟨sp', n', c', l', m, hm, rfl, rfl, hl', ho', heq, hbw⟩ := hrel
    have hlen' := hide (show l'.length + 1 ≤ 140737488355328 by
      have h1 := unhide HLen
      rw [← unhide heq, List.length_append] at h1
      have := (numB_length m).1
      omega)
    have hbr := hide (show w.heap.size ≤ wr.heap.size from (unhide hbw).size)
    by_cases h128 : m < 128
    · have hlit := hide (bytesAt_block (l := [m]) (heap_new wr (.cells #[.int .u8 (m : Int)] 5)) (by intro c hc; simp only [List.mem_cons, List.not_mem_nil, or_false] at hc; omega))
      have bA := hide (show Below wr.heap.size wr (wr.alloc (.cells #[.int .u8 (m : Int)] 5)) from (Below.refl _ _).alloc (Nat.le_refl _) _)
      have heq' := hide (show l' ++ [m] = numB n by rw [← unhide heq, numB_small h128])
      have hmod : (m : Int) % 128 = (m : Int) := by omega
      have hdiv : (m : Int) / 128 = 0 := by omega
      go_wp2_with (at_builtin; refine wpList_append8 rfl (.tmp 19) (.tmp 22) rfl w.heap.size sp' n' c' l' rfl (unhide hl') (by exact (unhide ho').later (unhide bA)) (some ⟨wr.heap.size, 0, none⟩) 1 1 rfl [m] rfl (by exact unhide hlit) (fun h => by cases h) (unhide hlen') (by exact Nat.le_trans (unhide hbr) (unhide bA).size) ?_; intro sp2 n2 c2 W2 hn2 ho2 hg2 hb2)
      rw [unhide heq'] at hn2 ho2
      go_ret2
      exact ⟨sp2, n2, c2, rfl, hn2, ho2, ((unhide hbw).trans ((unhide bA).mono (unhide hbr))).trans hb2⟩
    · obtain ⟨q, hq⟩ : ∃ q, q = m % 128 + 128 := ⟨_, rfl⟩
      obtain ⟨d, hd⟩ : ∃ d, d = m / 128 := ⟨_, rfl⟩
      have hlit := hide (bytesAt_block (l := [q]) (heap_new wr (.cells #[.int .u8 (q : Int)] 5)) (by intro c hc; simp only [List.mem_cons, List.not_mem_nil, or_false] at hc; omega))
      have bA := hide (show Below wr.heap.size wr (wr.alloc (.cells #[.int .u8 (q : Int)] 5)) from (Below.refl _ _).alloc (Nat.le_refl _) _)
      have heq' := hide (show l' ++ [q] ++ numB d = numB n by rw [← unhide heq, numB_great h128, hq, hd, List.append_assoc]; rfl)
      have hmod : (m : Int) % 128 + 128 = (q : Int) := by omega
      have hdiv : (m : Int) / 128 = (d : Int) := by omega
      have hd0 : ¬ (d : Int) = 0 := by omega
      have hq256 : (q : Int) < 256 := by omega
      have HD := hide hd
      have HQ := hide hq
      clear hd hq
      go_wp2_with (at_builtin; refine wpList_append8 rfl (.tmp 24) (.tmp 28) rfl w.heap.size sp' n' c' l' rfl (unhide hl') (by exact (unhide ho').later (unhide bA)) (some ⟨wr.heap.size, 0, none⟩) 1 1 rfl [q] rfl (by exact unhide hlit) (fun h => by cases h) (unhide hlen') (by exact Nat.le_trans (unhide hbr) (unhide bA).size) ?_; intro sp2 n2 c2 W2 hn2 ho2 hg2 hb2)
      have hbn := ((unhide hbw).trans ((unhide bA).mono (unhide hbr))).trans hb2
      exact ⟨⟨sp2, n2, c2, l' ++ [q], d, by have := unhide HD; omega, rfl, rfl, hn2, ho2, unhide heq', hbn⟩, by have := unhide HD; simp [intOf]; omega⟩
theorem refTake_arg (a : Option Addr) (m c : Nat) (l : List Nat) (k : Int) (w : World) (hm : l.length = m) (h : ¬ (0 ≤ k ∧ k ≤ (l.length : Int))) :
    Calls Try.prog 59 #[.slice a m c, .int .i64 k] w fun e w' => e = .returned (.tuple #[.int .i64 0, .int .i64 0, .int .i64 2]) ∧ w' = w := by
  subst hm
  by_cases h0 : 0 ≤ k
  · have h1 : ¬ k ≤ (l.length : Int) := fun h1 => h ⟨h0, h1⟩
    clear h
    go_enter Try.func59, Try.ntmps59
    go_wp2
    go_ret3
    exact ⟨rfl, rfl⟩
  · clear h
    go_enter Try.func59, Try.ntmps59
    go_wp2
    go_ret3
    exact ⟨rfl, rfl⟩
/-- What TakeNumber answers. -/
def takeV (l : List Nat) (k : Nat) : Value :=
  if (takeN l k).1 = 0 then .tuple #[.int .i64 ((takeN l k).2.1 : Int), .int .i64 ((takeN l k).2.2 : Int), .int .i64 0] else .tuple #[.int .i64 0, .int .i64 0, .int .i64 ((takeN l k).1 : Int)]
set_option maxRecDepth 20000 in
set_option maxHeartbeats 1000000 in
theorem refTake_calls (a : Option Addr) (M c : Nat) (l : List Nat) (k : Nat) (kk : Int) (w : World) (hM : l.length = M) (hkk : kk = (k : Int)) (hl : l.length ≤ 140737488355328) (hk : k ≤ l.length) (hb : BytesAt w a l) :
    Calls Try.prog 59 #[.slice a M c, .int .i64 kk] w fun e w' => e = .returned (takeV l k) ∧ w' = w := by
  subst hM hkk
  have HB := hide hb
  clear hb
  have hk0 := hk
  go_enter Try.func59, Try.ntmps59
  go_wp2
  clear hk
  go_loop [7, 8, 9] (fun x u i => ∃ (m s : Nat), s ≤ 6 ∧ i = .int .i64 (s : Int) ∧ u = .int .i64 ((128 ^ s : Nat) : Int) ∧ x = .int .i64 (m : Int) ∧ m < 128 ^ s ∧ Hid (takeF l (6 - s) s m (k + s) = takeN l k)) (fun _ _ i => 6 - (intOf i).toNat)
  case atStart => exact ⟨0, 0, by omega, rfl, rfl, rfl, by decide, rfl⟩
  case round =>
    obtain ⟨m, s, hs, rfl, rfl, rfl, hm, heq⟩ := hrel
    by_cases hk : k + s < l.length
    · obtain ⟨b, off, rfl, hc⟩ := (unhide HB).cell (k + s) hk
      have hx := getD_lt (unhide HB).lt (k + s)
      generalize hxx : l.getD (k + s) 0 = x at *
      have HX := hide hxx
      clear hxx
      rcases (by omega : s = 0 ∨ s = 1 ∨ s = 2 ∨ s = 3 ∨ s = 4 ∨ s = 5 ∨ s = 6) with rfl | rfl | rfl | rfl | rfl | rfl | rfl
      · obtain ⟨n, hn⟩ : ∃ n, n = m + x % 128 * 128 ^ 0 := ⟨_, rfl⟩
        have hA : (m : Int) + ((x : Int) % 128) = (n : Int) := by rw [hn]; simp only [Nat.reducePow]; omega
        have hm' : m < 1 := hm
        simp only [Nat.add_zero] at hc
        have hlt : n < 128 := by rw [hn]; simp only [Nat.reducePow]; omega
        have HN := hide hn
        clear hn hm
        by_cases h128 : 128 ≤ x
        · have ht := hide ((takeF_more 5 0 m (unhide HX) hk h128 (by decide)).symm.trans (unhide heq))
          rw [← unhide HN] at ht
          go_wp2
          exact ⟨⟨n, 1, by omega, rfl, rfl, rfl, by simp only [Nat.reducePow]; exact hlt, by rw [show k + 1 = k + 0 + 1 by omega]; exact unhide ht⟩, by simp [intOf]⟩
        · have hxx : x % 128 = x := by omega
          rw [hxx] at HN
          by_cases hb : 1099511627776 < n
          · omega
          · have ht := hide ((takeF_ok 5 0 m (unhide HX) hk h128 (fun h => absurd h.2 (by decide)) (by rw [← unhide HN]; exact hb)).symm.trans (unhide heq))
            rw [← unhide HN] at ht
            go_wp2
            all_goals (go_ret3; exact ⟨by rw [takeV, ← unhide ht]; rfl, rfl⟩)
      · obtain ⟨n, hn⟩ : ∃ n, n = m + x % 128 * 128 ^ 1 := ⟨_, rfl⟩
        have hA : (m : Int) + ((x : Int) % 128 * 128) = (n : Int) := by rw [hn]; simp only [Nat.reducePow]; omega
        have hm' : m < 128 := hm
        have hlt : n < 16384 := by rw [hn]; simp only [Nat.reducePow]; omega
        have HN := hide hn
        clear hn hm
        by_cases h128 : 128 ≤ x
        · have ht := hide ((takeF_more 4 1 m (unhide HX) hk h128 (by decide)).symm.trans (unhide heq))
          rw [← unhide HN] at ht
          go_wp2
          exact ⟨⟨n, 2, by omega, rfl, rfl, rfl, by simp only [Nat.reducePow]; exact hlt, by rw [show k + 2 = k + 1 + 1 by omega]; exact unhide ht⟩, by simp [intOf]⟩
        · have hxx : x % 128 = x := by omega
          rw [hxx] at HN
          by_cases h0 : x = 0
          · have ht := hide ((takeF_form 4 1 m (unhide HX) hk h0 (by decide)).symm.trans (unhide heq))
            go_wp2
            go_ret3
            exact ⟨by rw [takeV, ← unhide ht]; rfl, rfl⟩
          · by_cases hb : 1099511627776 < n
            · omega
            · have ht := hide ((takeF_ok 4 1 m (unhide HX) hk h128 (fun h => h0 h.1) (by rw [← unhide HN]; exact hb)).symm.trans (unhide heq))
              rw [← unhide HN] at ht
              go_wp2
              all_goals (go_ret3; exact ⟨by rw [takeV, ← unhide ht]; rfl, rfl⟩)
      · obtain ⟨n, hn⟩ : ∃ n, n = m + x % 128 * 128 ^ 2 := ⟨_, rfl⟩
        have hA : (m : Int) + ((x : Int) % 128 * 16384) = (n : Int) := by rw [hn]; simp only [Nat.reducePow]; omega
        have hm' : m < 16384 := hm
        have hlt : n < 2097152 := by rw [hn]; simp only [Nat.reducePow]; omega
        have HN := hide hn
        clear hn hm
        by_cases h128 : 128 ≤ x
        · have ht := hide ((takeF_more 3 2 m (unhide HX) hk h128 (by decide)).symm.trans (unhide heq))
          rw [← unhide HN] at ht
          go_wp2
          exact ⟨⟨n, 3, by omega, rfl, rfl, rfl, by simp only [Nat.reducePow]; exact hlt, by rw [show k + 3 = k + 2 + 1 by omega]; exact unhide ht⟩, by simp [intOf]⟩
        · have hxx : x % 128 = x := by omega
          rw [hxx] at HN
          by_cases h0 : x = 0
          · have ht := hide ((takeF_form 3 2 m (unhide HX) hk h0 (by decide)).symm.trans (unhide heq))
            go_wp2
            go_ret3
            exact ⟨by rw [takeV, ← unhide ht]; rfl, rfl⟩
          · by_cases hb : 1099511627776 < n
            · omega
            · have ht := hide ((takeF_ok 3 2 m (unhide HX) hk h128 (fun h => h0 h.1) (by rw [← unhide HN]; exact hb)).symm.trans (unhide heq))
              rw [← unhide HN] at ht
              go_wp2
              all_goals (go_ret3; exact ⟨by rw [takeV, ← unhide ht]; rfl, rfl⟩)
      · obtain ⟨n, hn⟩ : ∃ n, n = m + x % 128 * 128 ^ 3 := ⟨_, rfl⟩
        have hA : (m : Int) + ((x : Int) % 128 * 2097152) = (n : Int) := by rw [hn]; simp only [Nat.reducePow]; omega
        have hm' : m < 2097152 := hm
        have hlt : n < 268435456 := by rw [hn]; simp only [Nat.reducePow]; omega
        have HN := hide hn
        clear hn hm
        by_cases h128 : 128 ≤ x
        · have ht := hide ((takeF_more 2 3 m (unhide HX) hk h128 (by decide)).symm.trans (unhide heq))
          rw [← unhide HN] at ht
          go_wp2
          exact ⟨⟨n, 4, by omega, rfl, rfl, rfl, by simp only [Nat.reducePow]; exact hlt, by rw [show k + 4 = k + 3 + 1 by omega]; exact unhide ht⟩, by simp [intOf]⟩
        · have hxx : x % 128 = x := by omega
          rw [hxx] at HN
          by_cases h0 : x = 0
          · have ht := hide ((takeF_form 2 3 m (unhide HX) hk h0 (by decide)).symm.trans (unhide heq))
            go_wp2
            go_ret3
            exact ⟨by rw [takeV, ← unhide ht]; rfl, rfl⟩
          · by_cases hb : 1099511627776 < n
            · omega
            · have ht := hide ((takeF_ok 2 3 m (unhide HX) hk h128 (fun h => h0 h.1) (by rw [← unhide HN]; exact hb)).symm.trans (unhide heq))
              rw [← unhide HN] at ht
              go_wp2
              all_goals (go_ret3; exact ⟨by rw [takeV, ← unhide ht]; rfl, rfl⟩)
      · obtain ⟨n, hn⟩ : ∃ n, n = m + x % 128 * 128 ^ 4 := ⟨_, rfl⟩
        have hA : (m : Int) + ((x : Int) % 128 * 268435456) = (n : Int) := by rw [hn]; simp only [Nat.reducePow]; omega
        have hm' : m < 268435456 := hm
        have hlt : n < 34359738368 := by rw [hn]; simp only [Nat.reducePow]; omega
        have HN := hide hn
        clear hn hm
        by_cases h128 : 128 ≤ x
        · have ht := hide ((takeF_more 1 4 m (unhide HX) hk h128 (by decide)).symm.trans (unhide heq))
          rw [← unhide HN] at ht
          go_wp2
          exact ⟨⟨n, 5, by omega, rfl, rfl, rfl, by simp only [Nat.reducePow]; exact hlt, by rw [show k + 5 = k + 4 + 1 by omega]; exact unhide ht⟩, by simp [intOf]⟩
        · have hxx : x % 128 = x := by omega
          rw [hxx] at HN
          by_cases h0 : x = 0
          · have ht := hide ((takeF_form 1 4 m (unhide HX) hk h0 (by decide)).symm.trans (unhide heq))
            go_wp2
            go_ret3
            exact ⟨by rw [takeV, ← unhide ht]; rfl, rfl⟩
          · by_cases hb : 1099511627776 < n
            · omega
            · have ht := hide ((takeF_ok 1 4 m (unhide HX) hk h128 (fun h => h0 h.1) (by rw [← unhide HN]; exact hb)).symm.trans (unhide heq))
              rw [← unhide HN] at ht
              go_wp2
              all_goals (go_ret3; exact ⟨by rw [takeV, ← unhide ht]; rfl, rfl⟩)
      · obtain ⟨n, hn⟩ : ∃ n, n = m + x % 128 * 128 ^ 5 := ⟨_, rfl⟩
        have hA : (m : Int) + ((x : Int) % 128 * 34359738368) = (n : Int) := by rw [hn]; simp only [Nat.reducePow]; omega
        have hm' : m < 34359738368 := hm
        have hlt : n < 4398046511104 := by rw [hn]; simp only [Nat.reducePow]; omega
        have HN := hide hn
        clear hn hm
        by_cases h128 : 128 ≤ x
        · have ht := hide ((takeF_last 5 m (unhide HX) hk h128).symm.trans (unhide heq))
          go_wp2
          exact ⟨⟨n, 6, by omega, rfl, rfl, rfl, by simp only [Nat.reducePow]; exact hlt, by rw [← unhide ht]; rfl⟩, by simp [intOf]⟩
        · have hxx : x % 128 = x := by omega
          rw [hxx] at HN
          by_cases h0 : x = 0
          · have ht := hide ((takeF_form 0 5 m (unhide HX) hk h0 (by decide)).symm.trans (unhide heq))
            go_wp2
            go_ret3
            exact ⟨by rw [takeV, ← unhide ht]; rfl, rfl⟩
          · by_cases hb : 1099511627776 < n
            · have ht := hide ((takeF_big 0 5 m (unhide HX) hk h128 (fun h => h0 h.1) (by rw [← unhide HN]; exact hb)).symm.trans (unhide heq))
              go_wp2
              go_ret3
              exact ⟨by rw [takeV, ← unhide ht]; rfl, rfl⟩
            · have ht := hide ((takeF_ok 0 5 m (unhide HX) hk h128 (fun h => h0 h.1) (by rw [← unhide HN]; exact hb)).symm.trans (unhide heq))
              rw [← unhide HN] at ht
              go_wp2
              all_goals (go_ret3; exact ⟨by rw [takeV, ← unhide ht]; rfl, rfl⟩)
      · have ht := hide (show (6, 0, k + 6) = takeN l k from unhide heq)
        go_wp2
        go_ret3
        exact ⟨by rw [takeV, ← unhide ht]; rfl, rfl⟩
    · by_cases h6 : s = 6
      · subst h6
        have ht := hide (show (6, 0, k + 6) = takeN l k from unhide heq)
        go_wp2
        go_ret3
        exact ⟨by rw [takeV, ← unhide ht]; rfl, rfl⟩
      · have ht := hide (show (3, 0, k + s) = takeN l k by
          rw [← unhide heq]
          obtain ⟨f, hf⟩ : ∃ f, 6 - s = f + 1 := ⟨5 - s, by omega⟩
          rw [hf, takeF_short _ _ _ hk])
        go_wp2
        go_ret3
        exact ⟨by rw [takeV, ← unhide ht]; rfl, rfl⟩
end Go.Proofs.Ytcficfjgddjeeab
