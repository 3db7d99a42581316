/- The contracts of tollgateref01.All and SameRows. -/
import Derived.Test.YtmjojfngdfnababAid
import Derived.Test.YtmjojfngdfnababRefNxt
import Derived.Deep.RegionHeld3
namespace Go.Proofs.Ytmjojfngdfnabab
open Go.ChangeShapes Go.WideShapes Go.ChangeAt Go.RowKit

theorem refNext_any (a : Option Addr) (c : Nat) (l : List Nat) (k : Nat) (w : World) (hl : l.length ≤ 140737488355328) (hc : l.length ≤ c) (hz : a = none → c = 0) (hk : k ≤ l.length) (hb : BytesAt w a l) :
    Calls Try.prog 22 #[.slice a l.length c, .int .i64 (k : Int)] w fun e w' => Below w.heap.size w w' ∧
      ((0 < nextE l k ∧ e = .returned (.tuple #[.slice none 0 0, .int .i64 0, .int .i64 (nextE l k : Nat)])) ∨
       (nextE l k = 0 ∧ ∃ sp c', e = .returned (.tuple #[.slice sp (nextH l k).length c', .int .i64 ((k + 8 + (nextH l k).length : Nat) : Int), .int .i64 0]) ∧ OwnB w.heap.size w' sp c' (nextH l k))) := by
  by_cases h8 : l.length - k < 8
  · refine (refNext_short a c l k w (by simp only [maxLen]; omega) hk h8).mono ?_
    rintro e w' ⟨rfl, rfl⟩
    have e3 : nextE l k = 3 := by unfold nextE; rw [if_pos h8]
    exact ⟨Below.refl _ _, .inl ⟨by omega, by rw [e3]; rfl⟩⟩
  · exact refNext_calls a c l k w hl hc hz hk h8 hb

theorem OwnS.empty (w : World) (base : Nat) (hb : base ≤ w.heap.size) : OwnS base (w.alloc (.cells #[] 22)) (.slice (some ⟨w.heap.size, 0, none⟩) 0 0) [] :=
  ⟨⟨[], ⟨rfl, .inr ⟨w.heap.size, 0, #[], rfl, hb, heap_new _ _, Nat.le_refl _, by simp [maxLen], rfl, rfl⟩⟩, by simp⟩, by simp⟩

set_option maxHeartbeats 1000000 in
theorem refAll_calls (a : Option Addr) (c : Nat) (l : List Nat) (w : World) (hl : l.length ≤ 1099511627776) (hc : l.length ≤ c) (hz : a = none → c = 0) (hb : BytesAt w a l) :
    Calls Try.prog 13 #[.slice a l.length c] w fun e w' => ∃ v hs k, e = .returned (.tuple #[v, .int .i64 ((k : Nat) : Int)]) ∧ Below w.heap.size w w' ∧ OwnS w.heap.size w' v hs ∧ Steps l 0 hs k ∧ 0 < nextE l k ∧ k ≤ l.length := by
  have HB := hide hb
  have Hz := hide hz
  have HM := hide (show l.length ≤ maxLen by simp only [maxLen]; omega)
  have HM47 := hide (show l.length ≤ 140737488355328 by omega)
  clear hb hz
  go_enter Try.func13, Try.ntmps13
  go_wp2
  go_loopw [4, 5] (fun v i wr => ∃ (hs : List (List Nat)) (k : Nat), k ≤ l.length ∧ i = .int .i64 (k : Int) ∧ Hid (Below w.heap.size w wr) ∧ Hid (OwnS w.heap.size wr v hs) ∧ Hid (Steps l 0 hs k)) (fun _ i _ => l.length - (intOf i).toNat)
  case atStart => exact ⟨[], 0, by omega, rfl, (Below.refl _ _).alloc (Nat.le_refl _) _, OwnS.empty _ _ (Nat.le_refl _), rfl⟩
  case round =>
    obtain ⟨hs, k, hk, rfl, hbw, hown, hst⟩ := hrel
    have HBr := hide ((unhide HB).later (unhide hbw))
    have hkk : (k : Int) ≤ (l.length : Int) := by omega
    go_wp2_with fail
    refine (refNext_any _ _ l k _ (unhide HM47) hc (unhide Hz) hk (unhide HBr)).mono ?_
    rintro e W1 ⟨hb1, ⟨hp, rfl⟩ | ⟨he, g, gc, rfl, hcell⟩⟩
    · have hne : ((nextE l k : Nat) : Int) != 0 := by simp; omega
      have Hp := hide hp
      have hown1 := hide ((unhide hown).later hb1)
      have hbw1 := hide ((unhide hbw).trans (hb1.mono (unhide hbw).size))
      clear hp
      generalize hE : nextE l k = E at *
      have HE := hide hE
      clear hE
      go_wp2
      go_ret2
      exact ⟨u4, hs, k, rfl, unhide hbw1, unhide hown1, unhide hst, by rw [unhide HE]; exact unhide Hp, hk⟩
    · obtain ⟨z1, z2, z3⟩ := nextE_zero he
      have hst' := hide ((unhide hst).snoc he)
      have hown1 := hide ((unhide hown).later hb1)
      have hbw1 := hide ((unhide hbw).trans (hb1.mono (unhide hbw).size))
      have hlen := (unhide hst).length_le
      have Hcell := hide (hcell.mono (unhide hbw).size)
      clear he z1 z2 hcell
      generalize nextH l k = H at *
      have r1 := hide (show hs.length ≤ 1099511627776 by omega)
      have r2 := hide (show k + 8 + H.length ≤ l.length from z3)
      have hB := hide (World.cell?_alloc_new (w := W1) #[.slice g H.length gc] 22 0)
      have bA := hide (show Below W1.heap.size W1 (W1.alloc (.cells #[.slice g H.length gc] 22)) from (Below.refl _ _).alloc (Nat.le_refl _) _)
      have HO := hide ((unhide Hcell).later (unhide bA))
      clear hlen
      go_wp2_with (at_builtin; refine wpList_appendS rfl (.tmp 25) (.tmp 27) rfl w.heap.size u4 hs rfl (by exact (unhide hown1).later (unhide bA)) W1.heap.size rfl g gc H (by exact unhide hB) (by exact unhide HO) (unhide r1) ?hbase ?_; rotate_right; intro v2 W2 ho2 hb2)
      case hbase => exact Nat.le_trans (unhide hbw1).size (unhide bA).size
      have r3 := unhide r2
      exact ⟨⟨hs ++ [H], k + 8 + H.length, r3, by go_num, ((unhide hbw1).trans ((unhide bA).mono (unhide hbw1).size)).trans hb2, ho2, unhide hst'⟩, by simp [intOf]; omega⟩

/-- Rows of bytes as they lie in memory. -/
def RowsAt (w : World) (sp : Option Addr) (hs : List (List Nat)) : Prop :=
  ∀ i, i < hs.length → ∃ b off p c, sp = some ⟨b, off, none⟩ ∧ w.cell? ⟨b, off + i, none⟩ = some (.slice p (hs.getD i []).length c) ∧ BytesAt w p (hs.getD i [])
theorem OwnS.rows {base : Nat} {w : World} {sp : Option Addr} {n c : Nat} {hs : List (List Nat)} (h : OwnS base w (.slice sp n c) hs) : RowsAt w sp hs := by
  intro i hi
  obtain ⟨cs, ho, hc⟩ := h.ex
  obtain ⟨p, c', h1, h2⟩ := hc i hi
  rcases ho.2 with ⟨_, h0⟩ | ⟨g, cap, cur, hv, _, hg, _, _, _, ht⟩
  · omega
  · simp only [Value.slice.injEq] at hv
    obtain ⟨rfl, _, rfl⟩ := hv
    refine ⟨g, 0, p, c', rfl, ?_, h2.bytes⟩
    rw [cell_of_row w g (0 + i) cur _ _ hg, Nat.zero_add]
    rw [← ht, List.getElem?_take, if_pos (by omega)] at h1
    rw [← Array.getElem?_toList]
    exact h1
theorem RowsAt.later {w w' : World} {sp : Option Addr} {hs : List (List Nat)} (h : RowsAt w sp hs) (hb : Below w.heap.size w w') : RowsAt w' sp hs := by
  intro i hi
  obtain ⟨b, off, p, c, h1, h2, h3⟩ := h i hi
  exact ⟨b, off, p, c, h1, cell_later hb h2, h3.later hb⟩

set_option maxHeartbeats 1000000 in
theorem sameRows_calls (sp sp' : Option Addr) (c c' : Nat) (hs : List (List Nat)) (w : World) (hl : hs.length ≤ maxLen) (hr : RowsAt w sp hs) (hr' : RowsAt w sp' hs) :
    Calls Try.prog 14 #[.slice sp hs.length c, .slice sp' hs.length c'] w fun e w' => e = .returned (.bool true) ∧ Below w.heap.size w w' := by
  unfold maxLen at hl
  have HR := hide hr
  have HR' := hide hr'
  clear hr hr'
  go_enter Try.func14, Try.ntmps14
  go_wp2
  go_loopw [5] (fun i wr => ∃ k : Nat, k ≤ hs.length ∧ i = .int .i64 (k : Int) ∧ Hid (Below w.heap.size w wr)) (fun i _ => hs.length - (intOf i).toNat)
  case atStart => exact ⟨0, by omega, rfl, Below.refl _ _⟩
  case round =>
    obtain ⟨k, hk, rfl, hbw⟩ := hrel
    by_cases hlt : k < hs.length
    · obtain ⟨b, off, p, pc, rfl, h1, hb1⟩ := (unhide HR).later (unhide hbw) k hlt
      obtain ⟨b', off', p', pc', rfl, h1', hb1'⟩ := (unhide HR').later (unhide hbw) k hlt
      have s1 := fun nq => run_string8 (w := wr.drewN nq) (c := pc) (hs.getD k []).length rfl ⟨hb1.lt, hb1.cell⟩
      have s1' := fun nq => run_string8 (w := wr.drewN nq) (c := pc') (hs.getD k []).length rfl ⟨hb1'.lt, hb1'.cell⟩
      clear hb1 hb1'
      have k0 : (0 : Int) ≤ (k : Int) := by omega
      have k1 : (k : Int) < (hs.length : Int) := by omega
      generalize (hs.getD k []).length = n at *
      generalize strOf (hs.getD k []) = st at *
      go_wp2
      go_quiet (fail)
      go_wp2
      exact ⟨⟨k + 1, by omega, by go_num, below_drewN (unhide hbw) _⟩, by simp [intOf]; omega⟩
    · go_wp2
      go_ret
      exact ⟨rfl, unhide hbw⟩
end Go.Proofs.Ytmjojfngdfnabab
