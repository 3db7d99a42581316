/- Plane: whether a prefix fits a path. -/
import Derived.Test.YtcmiappiocfbiaaGreatDoorBas0
namespace Go.Proofs.YtcmiappiocfbiaaGreatDoor
open Go.ChangeShapes Go.WideShapes Go.ChangeAt Go.RowKit

def fitsL (p q : Tx) : Bool := p.isPrefixOf q && (p.length == q.length || p.getLast? == some 47 || q[p.length]? == some 47)
def preB (s p : ByteArray) : Bool := p.data.toList.isPrefixOf s.data.toList
theorem data_len (s : ByteArray) : s.data.toList.length = s.size := by simp
theorem preB_is (s p : ByteArray) : ((s.extract 0 p.size).toList == p.toList) = preB s p := by
  rw [ByteArray.toList_eq, ByteArray.toList_eq]
  unfold preB
  rw [Bool.eq_iff_iff, beq_iff_eq, List.isPrefixOf_iff_prefix, List.prefix_iff_eq_take, data_len]
  have e : (s.extract 0 p.size).data.toList = s.data.toList.take p.size := by simp [ByteArray.data_extract]
  rw [e]
  exact eq_comm
theorem preB_no (s p : ByteArray) (h : ¬ p.size ≤ s.size) : preB s p = false := by
  unfold preB
  cases hc : p.data.toList.isPrefixOf s.data.toList with
  | false => rfl
  | true =>
    have := (List.isPrefixOf_iff_prefix.1 hc).length_le
    rw [data_len, data_len] at this
    omega
set_option maxHeartbeats 2000000 in
theorem hasPre_calls (s p : ByteArray) (w : World) : Calls Tryz.prog 84 #[.string s, .string p] w fun e w' => e = .returned (.bool (preB s p)) ∧ w' = w := by
  by_cases h : p.size ≤ s.size
  · have h1 : (p.size : Int) ≤ (s.size : Int) := by omega
    have h2 := preB_is s p
    go_enter Tryz.func84, Tryz.ntmps84
    go_wp2
    go_ret
    exact ⟨rfl, rfl⟩
  · have h1 : ¬ (p.size : Int) ≤ (s.size : Int) := by omega
    have h2 := preB_no s p h
    go_enter Tryz.func84, Tryz.ntmps84
    go_wp2
    go_ret
    exact ⟨rfl, rfl⟩
def cutV (s p : ByteArray) : Value := match preB s p with | true => .tuple #[.string (s.extract p.size s.size), .bool true] | false => .tuple #[.string s, .bool false]
set_option maxHeartbeats 2000000 in
theorem cutPre0_calls (s p : ByteArray) (w : World) : Calls Tryz.prog 73 #[.string s, .string p] w fun e w' => e = .returned (cutV s p) ∧ w' = w := by
  have HP := hide (hasPre_calls s p w)
  cases h : preB s p with
  | true =>
    have h0 : (p.size : Int) ≤ (s.size : Int) := by
      by_cases q : p.size ≤ s.size
      · omega
      · rw [preB_no s p q] at h; cases h
    have E := hide (show cutV s p = .tuple #[.string (s.extract p.size s.size), .bool true] by unfold cutV; rw [h])
    rw [h] at HP
    clear h
    go_enter Tryz.func73, Tryz.ntmps73
    go_wp2_with (go_at_call 84; refine (unhide HP).mono ?_; rintro e w' ⟨rfl, rfl⟩)
    go_ret2
    exact ⟨by rw [unhide E]; rfl, rfl⟩
  | false =>
    have E := hide (show cutV s p = .tuple #[.string s, .bool false] by unfold cutV; rw [h])
    rw [h] at HP
    clear h
    go_enter Tryz.func73, Tryz.ntmps73
    go_wp2_with (go_at_call 84; refine (unhide HP).mono ?_; rintro e w' ⟨rfl, rfl⟩)
    go_ret2
    exact ⟨by rw [unhide E]; rfl, rfl⟩
set_option maxHeartbeats 2000000 in
theorem cutPre_calls (s p : ByteArray) (w : World) : Calls Tryz.prog 59 #[.string s, .string p] w fun e w' => e = .returned (cutV s p) ∧ w' = w := by
  have CP := hide (cutPre0_calls s p w)
  cases h : preB s p with
  | true =>
    have E := hide (show cutV s p = .tuple #[.string (s.extract p.size s.size), .bool true] by unfold cutV; rw [h])
    rw [unhide E] at CP ⊢
    clear h E
    go_enter Tryz.func59, Tryz.ntmps59
    go_wp2_with (go_at_call 73; refine (unhide CP).mono ?_; rintro e w' ⟨rfl, rfl⟩)
    go_ret2
    exact ⟨rfl, rfl⟩
  | false =>
    have E := hide (show cutV s p = .tuple #[.string s, .bool false] by unfold cutV; rw [h])
    rw [unhide E] at CP ⊢
    clear h E
    go_enter Tryz.func59, Tryz.ntmps59
    go_wp2_with (go_at_call 73; refine (unhide CP).mono ?_; rintro e w' ⟨rfl, rfl⟩)
    go_ret2
    exact ⟨rfl, rfl⟩
def sufB (p : ByteArray) : Bool := p.data.toList.getLast? == some 47
theorem sufB_is (p : ByteArray) (h : 1 ≤ p.size) : ((p.extract (p.size - 1) p.size).toList == [47]) = sufB p := by
  rw [ByteArray.toList_eq]
  unfold sufB
  have e : (p.extract (p.size - 1) p.size).data.toList = p.data.toList.drop (p.size - 1) := by
    simp [ByteArray.data_extract]
    rw [List.take_of_length_le (by simp)]
  rw [e]
  have hl := data_len p
  generalize p.data.toList = l at *
  rw [← hl] at h ⊢
  rw [List.getLast?_eq_getElem?, List.getElem?_eq_getElem (by omega), List.drop_eq_getElem_cons (by omega), List.drop_of_length_le (by omega)]
  rw [Bool.eq_iff_iff, beq_iff_eq, beq_iff_eq]
  simp
set_option maxHeartbeats 2000000 in
theorem hasSuf0_calls (p : ByteArray) (hp : p.size ≤ maxLen) (w : World) : Calls Tryz.prog 74 #[.string p, .string ⟨#[47]⟩] w fun e w' => e = .returned (.bool (sufB p)) ∧ w' = w := by
  simp only [maxLen] at hp
  have hs1 : (⟨#[47]⟩ : ByteArray).size = 1 := rfl
  have ht : (⟨#[47]⟩ : ByteArray).toList = [47] := by rw [ByteArray.toList_eq]
  by_cases h : 1 ≤ p.size
  · have h1 : (1 : Int) ≤ (p.size : Int) := by omega
    have h2 := sufB_is p h
    have h3 : IntKind.i64.wrap ((p.size : Int) - 1) = ((p.size - 1 : Nat) : Int) := by rw [IntKind.wrap_i64]; omega
    have h4 : ((p.size - 1 : Nat) : Int) = (p.size : Int) - 1 := by omega
    have h5 : ((p.size : Int) - 1).toNat = p.size - 1 := by omega
    go_enter Tryz.func74, Tryz.ntmps74
    go_wp2
    go_ret
    exact ⟨rfl, rfl⟩
  · have h1 : ¬ (1 : Int) ≤ (p.size : Int) := by omega
    have h2 : sufB p = false := by
      have : p.data.toList = [] := List.eq_nil_of_length_eq_zero (by rw [data_len]; omega)
      unfold sufB
      rw [this]
      rfl
    go_enter Tryz.func74, Tryz.ntmps74
    go_wp2
    go_ret
    exact ⟨rfl, rfl⟩
theorem hasSuf_calls (p : ByteArray) (hp : p.size ≤ maxLen) (w : World) : Calls Tryz.prog 60 #[.string p, .string ⟨#[47]⟩] w fun e w' => e = .returned (.bool (sufB p)) ∧ w' = w := by
  have CP := hide (hasSuf0_calls p hp w)
  clear hp
  generalize sufB p = b at *
  go_enter Tryz.func60, Tryz.ntmps60
  go_wp2_with (go_at_call 74; refine (unhide CP).mono ?_; rintro e w' ⟨rfl, rfl⟩)
  go_ret
  exact ⟨rfl, rfl⟩
end Go.Proofs.YtcmiappiocfbiaaGreatDoor
