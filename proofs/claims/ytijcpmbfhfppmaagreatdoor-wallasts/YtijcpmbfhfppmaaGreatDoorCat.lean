/- Frames one behind the other, cut anywhere (plain); rows of bytes of the call's own. -/
import Derived.Test.YtijcpmbfhfppmaaGreatDoorAid
import Derived.Test.YtijcpmbfhfppmaaGreatDoorApi
namespace Go.Proofs.YtijcpmbfhfppmaaGreatDoor
open Go.ChangeShapes Go.WideShapes Go.ChangeAt Go.RowKit

theorem frame_any (a : Option Addr) (n c : Nat) (l : List Nat) (w : World) (hn : l.length = n) (hl : l.length ≤ maxLen) (hb : BytesAt w a l) :
    Calls Tryz.prog 138 #[.slice a n c] w fun e w' => Below w.heap.size w w' ∧ ((65536 < l.length ∧ e = .returned (.tuple #[.slice none 0 0, .int .i64 6])) ∨
      (l.length ≤ 65536 ∧ ∃ g, e = .returned (.tuple #[.slice (some ⟨g, 0, none⟩) (8 + n) (8 + n), .int .i64 0]) ∧ w.heap.size ≤ g ∧ w'.heap[g]? = some (.cells ((frameB l).map byteV).toArray 5 (0, 0)))) := by
  subst hn
  by_cases h : 65536 < l.length
  · refine (frame_long a c l w hl h).mono ?_
    rintro e w' ⟨rfl, rfl⟩
    exact ⟨Below.refl _ _, .inl ⟨h, rfl⟩⟩
  · refine (frame_ok a c l w hb (by omega)).mono ?_
    rintro e w' ⟨g, rfl, h1, h2, h3⟩
    exact ⟨h1, .inr ⟨by omega, g, rfl, h2, h3⟩⟩
def cat : List (List Nat) → List Nat
  | [] => []
  | h :: r => frameB h ++ cat r
theorem cat_snoc : ∀ (hs : List (List Nat)) (h : List Nat), cat (hs ++ [h]) = cat hs ++ frameB h
  | [], h => by simp [cat]
  | x :: r, h => by simp only [List.cons_append, cat, cat_snoc r h, List.append_assoc]
theorem nextE_shift (ahead l : List Nat) (k : Nat) : nextE (ahead ++ l) (ahead.length + k) = nextE l k := by
  unfold nextE
  have d : ∀ j, (ahead ++ l).drop (ahead.length + j) = l.drop j := fun j => by rw [← List.drop_drop, List.drop_left]
  rw [Nat.add_assoc, Nat.add_assoc, d, d, d, List.length_append, show ahead.length + l.length - (ahead.length + k) = l.length - k by omega]
theorem steps_cat : ∀ (hs : List (List Nat)) (ahead behind : List Nat), (∀ h ∈ hs, h.length ≤ 65536) → Steps (ahead ++ (cat hs ++ behind)) ahead.length hs (ahead.length + (cat hs).length)
  | [], ahead, behind, _ => by simp [Steps, cat]
  | h :: r, ahead, behind, hl => by
    have hh := hl h (by simp)
    have e : ahead ++ (cat (h :: r) ++ behind) = ahead ++ (frameB h ++ (cat r ++ behind)) := by simp only [cat, List.append_assoc]
    obtain ⟨h1, h2⟩ := frame_next ahead h (cat r ++ behind) hh
    refine ⟨by rw [e]; exact h1, by rw [e]; exact h2, ?_⟩
    have ih := steps_cat r (ahead ++ frameB h) behind (fun x hx => hl x (by simp [hx]))
    have e2 : ahead ++ (cat (h :: r) ++ behind) = (ahead ++ frameB h) ++ (cat r ++ behind) := by simp only [cat, List.append_assoc]
    rw [e2]
    have e3 : (ahead ++ frameB h).length = ahead.length + 8 + h.length := by rw [List.length_append, frameB_length]; omega
    have e4 : ahead.length + (cat (h :: r)).length = (ahead ++ frameB h).length + (cat r).length := by simp only [cat, List.length_append]; omega
    rw [e4]
    rw [e3] at ih ⊢
    exact ih
theorem rows_cut (hs : List (List Nat)) (t : List Nat) (hl : ∀ h ∈ hs, h.length ≤ 65536) (ht : nextE t 0 = 3) : Steps (cat hs ++ t) 0 hs (cat hs).length ∧ 0 < nextE (cat hs ++ t) (cat hs).length := by
  have h1 := steps_cat hs [] t hl
  rw [List.nil_append, List.length_nil, Nat.zero_add] at h1
  have h2 := nextE_shift (cat hs) t 0
  rw [Nat.add_zero] at h2
  exact ⟨h1, by omega⟩
theorem u16_nat {n : Int} (h : (Lit.int .u16 n).wf = true) : ∃ m : Nat, n = (m : Int) ∧ m < 65536 := by
  have := bounds_u16 h
  exact ⟨n.toNat, by omega, by omega⟩
theorem nextE_nil : nextE [] 0 = 3 := by decide
/-- Where frames are cut: whole ones, and a piece that is none. -/
theorem cut_at : ∀ (hs : List (List Nat)) (N : Nat), (∀ h ∈ hs, h.length ≤ 65536) → N ≤ (cat hs).length → ∃ m t, m ≤ hs.length ∧ (cat hs).take N = cat (hs.take m) ++ t ∧ nextE t 0 = 3 ∧ (∀ k, k < m → (cat (hs.take (k + 1))).length ≤ N) ∧ (m < hs.length → N < (cat (hs.take (m + 1))).length)
  | [], N, _, hN => by
    have : N = 0 := by simpa [cat] using hN
    subst this
    exact ⟨0, [], Nat.le_refl _, by simp [cat], nextE_nil, fun k hk => by omega, fun h => by simp at h⟩
  | h :: r, N, hl, hN => by
    have hh := hl h (by simp)
    have hF := frameB_length h
    by_cases hc : N < 8 + h.length
    · refine ⟨0, (frameB h).take N, Nat.zero_le _, ?_, cut_next h N hh hc, fun k hk => by omega, fun _ => ?_⟩
      · simp only [cat, List.take_zero, List.nil_append]
        rw [List.take_append_of_le_length (by omega)]
      · simp only [cat, List.take_succ_cons, List.take_zero, List.append_nil]
        omega
    · have hN' : N - (8 + h.length) ≤ (cat r).length := by
        simp only [cat, List.length_append] at hN
        omega
      obtain ⟨m, t, h1, h2, h3, h4, h5⟩ := cut_at r (N - (8 + h.length)) (fun x hx => hl x (by simp [hx])) hN'
      refine ⟨m + 1, t, by simpa using h1, ?_, h3, fun k hk => ?_, fun hm => ?_⟩
      · simp only [cat, List.take_succ_cons, List.append_assoc]
        rw [← h2, List.take_append, List.take_of_length_le (by omega), hF]
      · cases k with
        | zero => simp only [cat, List.take_succ_cons, List.take_zero, List.append_nil]; omega
        | succ k =>
          have := h4 k (by omega)
          simp only [cat, List.take_succ_cons, List.length_append]
          omega
      · have := h5 (by simpa using hm)
        simp only [cat, List.take_succ_cons, List.length_append]
        omega
def endsL (hs : List (List Nat)) : List Int := (List.range hs.length).map fun k => ((cat (hs.take (k + 1))).length : Int)
theorem endsL_length (hs : List (List Nat)) : (endsL hs).length = hs.length := by simp [endsL]
theorem endsL_get (hs : List (List Nat)) (k : Nat) (hk : k < (endsL hs).length) : (endsL hs)[k] = ((cat (hs.take (k + 1))).length : Int) := by simp [endsL]
theorem endsL_snoc (hs : List (List Nat)) (h : List Nat) : endsL (hs ++ [h]) = endsL hs ++ [((cat (hs ++ [h])).length : Int)] := by
  unfold endsL
  rw [List.length_append, List.length_singleton, List.range_succ, List.map_append]
  congr 1
  · apply List.map_congr_left
    intro k hk
    have := List.mem_range.1 hk
    rw [List.take_append_of_le_length (by omega)]
  · rw [List.map_singleton, List.take_of_length_le (by simp)]
theorem OwnS.at {base : Nat} {w : World} {sp : Option Addr} {n c : Nat} {hs : List (List Nat)} (h : OwnS base w (.slice sp n c) hs) (i : Nat) (hi : i < hs.length) : ∃ g p pc, sp = some ⟨g, 0, none⟩ ∧ w.cell? ⟨g, i, none⟩ = some (.slice p (hs.getD i []).length pc) ∧ OwnB base w p pc (hs.getD i []) := by
  obtain ⟨cs, ho, hc⟩ := h.ex
  obtain ⟨p, pc, h1, h2⟩ := hc i hi
  rcases ho.2 with ⟨hv, h0⟩ | ⟨g, cap, cur, hv, _, hg, _, _, _, ht⟩
  · omega
  · simp only [Value.slice.injEq] at hv
    refine ⟨g, p, pc, hv.1, ?_, h2⟩
    rw [cell_of_row w g i cur _ _ hg]
    rw [← ht, List.getElem?_take, if_pos (by omega)] at h1
    rw [← Array.getElem?_toList]
    exact h1
end Go.Proofs.YtijcpmbfhfppmaaGreatDoor
