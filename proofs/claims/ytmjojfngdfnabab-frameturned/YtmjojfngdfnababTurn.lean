/- Plain: a frame one byte of whose sum or of what it holds is another one is known by its sum. -/
import Derived.Test.YtmjojfngdfnababLiv
namespace Go.Proofs.Ytmjojfngdfnabab

theorem num4_inj {a b : List Nat} (ha : ∀ c ∈ a, c < 256) (hb : ∀ c ∈ b, c < 256) (h : num4 a = num4 b) (i : Nat) (hi : i < 4) : a.getD i 0 = b.getD i 0 := by
  have a0 := getD_lt ha 0
  have a1 := getD_lt ha 1
  have a2 := getD_lt ha 2
  have a3 := getD_lt ha 3
  have b0 := getD_lt hb 0
  have b1 := getD_lt hb 1
  have b2 := getD_lt hb 2
  have b3 := getD_lt hb 3
  unfold num4 at h
  match i, hi with
  | 0, _ => omega
  | 1, _ => omega
  | 2, _ => omega
  | 3, _ => omega
theorem split_at (l : List Nat) (j : Nat) (hj : j < l.length) : l = l.take j ++ l.getD j 0 :: l.drop (j + 1) := by
  have e : l.getD j 0 = l[j] := by rw [List.getD_eq_getElem?_getD, List.getElem?_eq_getElem hj]; rfl
  rw [e]
  have h1 := (List.take_append_drop j l).symm
  rw [List.drop_eq_getElem_cons hj] at h1
  exact h1
theorem set_at (l : List Nat) (j y : Nat) (hj : j < l.length) : l.set j y = l.take j ++ y :: l.drop (j + 1) := by
  rw [List.set_eq_take_append_cons_drop, if_pos hj]
theorem mem_set {l : List Nat} {j y : Nat} (h : ∀ c ∈ l, c < 256) (hy : y < 256) : ∀ c ∈ l.set j y, c < 256 := by
  intro c hc
  rcases List.mem_or_eq_of_mem_set hc with h1 | h1
  · exact h c h1
  · omega

/-- What Next answers at the beginning of bytes that open as a frame does. -/
theorem nextE_parts (n : Nat) (s4 l rest : List Nat) (hn : n ≤ 65536) (h4 : s4.length = 4) (hl : l.length = n) :
    nextE (word4 n ++ (s4 ++ (l ++ rest))) 0 = if Crc.ext (Crc.ext 0 (word4 n)) l = num4 (s4 ++ (l ++ rest)) then 0 else 5 := by
  have d4 : (word4 n ++ (s4 ++ (l ++ rest))).drop 4 = s4 ++ (l ++ rest) := by
    conv => lhs; rw [← word4_length n]
    rw [List.drop_left]
  have d8 : (word4 n ++ (s4 ++ (l ++ rest))).drop 8 = l ++ rest := by
    rw [show 8 = 4 + 4 from rfl, ← List.drop_drop, d4]
    conv => lhs; rw [← h4]
    rw [List.drop_left]
  have t4 : (word4 n ++ (s4 ++ (l ++ rest))).take 4 = word4 n := by
    conv => lhs; rw [← word4_length n]
    rw [List.take_left]
  have hlen : (word4 n ++ (s4 ++ (l ++ rest))).length = 8 + n + rest.length := by
    simp only [List.length_append, word4_length, h4, hl]; omega
  have ht : (l ++ rest).take n = l := by rw [← hl, List.take_left]
  unfold nextE
  simp only [Nat.zero_add, List.drop_zero]
  rw [num4_word4, t4, d8, d4, ht, hlen, if_neg (by omega), if_neg (by omega), if_neg (by omega)]

theorem turned_next (l : List Nat) (q y : Nat) (hl : l.length ≤ 65536) (hlt : ∀ c ∈ l, c < 256) (hq : 4 + q < 8 + l.length) (hy : y < 256) (hne : y ≠ (frameB l).getD (4 + q) 0) :
    nextE ((frameB l).set (4 + q) y) 0 = 5 := by
  have hs := fsum_lt l.length l
  have hws := word4_lt _ hs
  by_cases hq4 : q < 4
  · have e : (frameB l).set (4 + q) y = word4 l.length ++ ((word4 (fsum l.length l)).set q y ++ (l ++ [])) := by
      rw [frameB, List.set_append, if_neg (by rw [word4_length]; omega), word4_length, show 4 + q - 4 = q by omega, List.set_append, if_pos (by rw [word4_length]; omega), List.append_nil]
    have e0 : (frameB l).getD (4 + q) 0 = (word4 (fsum l.length l)).getD q 0 := by
      rw [frameB, List.getD_eq_getElem?_getD, List.getElem?_append_right (by rw [word4_length]; omega), word4_length, show 4 + q - 4 = q by omega, List.getElem?_append_left (by rw [word4_length]; omega), List.getD_eq_getElem?_getD]
    have hp := nextE_parts l.length ((word4 (fsum l.length l)).set q y) l [] hl (by rw [List.length_set, word4_length]) (Eq.refl _)
    rw [e, hp, if_neg]
    intro h
    apply hne
    have h1 : Crc.ext (Crc.ext 0 (word4 l.length)) l = fsum l.length l := by rw [fsum]
    have h3 := (num4_word4 (fsum l.length l) (l ++ [])).trans (h1.symm.trans h)
    have h2 := num4_inj (a := word4 (fsum l.length l) ++ (l ++ [])) (b := (word4 (fsum l.length l)).set q y ++ (l ++ []))
      (by intro c hc; simp only [List.append_nil, List.mem_append] at hc; exact hc.elim (hws c) (hlt c))
      (by intro c hc; simp only [List.append_nil, List.mem_append] at hc; exact hc.elim (mem_set hws hy c) (hlt c)) h3 q hq4
    rw [e0]
    have w4 := word4_length (fsum l.length l)
    rw [List.getD_eq_getElem?_getD, List.getElem?_append_left (by omega), List.getD_eq_getElem?_getD, List.getElem?_append_left (by rw [List.length_set]; omega), List.getElem?_set, if_pos rfl, if_pos (by omega)] at h2
    rw [List.getD_eq_getElem?_getD, h2]
    rfl
  · have hj : q - 4 < l.length := by omega
    have e : (frameB l).set (4 + q) y = word4 l.length ++ (word4 (fsum l.length l) ++ (l.set (q - 4) y ++ [])) := by
      rw [frameB, List.set_append, if_neg (by rw [word4_length]; omega), word4_length, show 4 + q - 4 = q by omega, List.set_append, if_neg (by rw [word4_length]; omega), word4_length, List.append_nil]
    have e0 : (frameB l).getD (4 + q) 0 = l.getD (q - 4) 0 := by
      rw [frameB, List.getD_eq_getElem?_getD, List.getElem?_append_right (by rw [word4_length]; omega), word4_length, show 4 + q - 4 = q by omega, List.getElem?_append_right (by rw [word4_length]; omega), word4_length, List.getD_eq_getElem?_getD]
    rw [e, nextE_parts _ _ (l.set (q - 4) y) [] hl (word4_length _) (by rw [List.length_set]), num4_word4, if_neg]
    intro h
    apply hne
    rw [e0]
    have h1 : fsum l.length l = Crc.ext (Crc.ext 0 (word4 l.length)) l := by rw [fsum]
    rw [h1] at h
    unfold Crc.ext at h
    have hw := word4_lt l.length (by omega)
    have r0 := Crc.reg_lt (word4 l.length) (Crc.not32_lt 0) hw
    have h2 := Crc.not32_inj (Crc.reg_lt _ (Crc.not32_lt _) (mem_set hlt hy)) (Crc.reg_lt _ (Crc.not32_lt _) hlt) h
    rw [set_at l (q - 4) y hj] at h2
    generalize hR : Crc.not32 (Crc.not32 (Crc.reg (Crc.not32 0) (word4 l.length))) = R at h2
    have hRlt : R < 4294967296 := by rw [← hR]; exact Crc.not32_lt _
    have h3 : Crc.reg R (l.take (q - 4) ++ y :: l.drop (q - 4 + 1)) = Crc.reg R (l.take (q - 4) ++ l.getD (q - 4) 0 :: l.drop (q - 4 + 1)) := by
      rw [← split_at l (q - 4) hj]; exact h2
    exact Crc.reg_turned R (l.take (q - 4)) (l.drop (q - 4 + 1)) y (l.getD (q - 4) 0) hRlt (fun c hc => hlt c (List.mem_of_mem_take hc)) (fun c hc => hlt c (List.mem_of_mem_drop hc)) hy (getD_lt hlt _) h3
end Go.Proofs.Ytmjojfngdfnabab
