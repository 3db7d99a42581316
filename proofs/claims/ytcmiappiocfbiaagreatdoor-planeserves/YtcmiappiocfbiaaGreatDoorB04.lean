/- Floats: whole numbers times powers of 2 (plain mathematics). -/
import Derived.Test.YtcmiappiocfbiaaGreatDoorB03
import Derived.Maps.AppendAt
import Derived.Deep.RegionLaw
import Derived.Test.YtcmiappiocfbiaaGreatDoorB02
import Derived.Laws.ResultCell
import Derived.Laws.Rows
section
namespace Go.Proofs.YtcmiappiocfbiaaGreatDoor
open Ieee

/-- The rung of m * 2^(e - 1074). -/
def fl (m e : Nat) : Nat := near 1074 (m * pw e)
theorem fl_val (m e t : Nat) (ht : t ≤ 2098) (hm : m < 2 ^ 53) (hV : m * pw e < pw t) : fl m e < fI ∧ val (fl m e) = m * pw e := by
  obtain ⟨x, h1, h2, h3⟩ := exact_val m e t (pw e) rfl ht hm hV
  unfold fl
  rw [h3]
  exact ⟨h1, h2⟩
theorem fl_ok (m e k : Nat) (hm : m < pw k) (hk : k ≤ 53) (he : e ≤ 1500) : fl m e < fI ∧ val (fl m e) = m * pw e := by
  refine fl_val m e (k + e) (by omega) (Nat.lt_of_lt_of_le hm (Nat.pow_le_pow_right (by omega) hk)) ?_
  rw [pw_add]
  exact Nat.mul_lt_mul_of_pos_right hm (pw_pos e)
theorem read_val2 (x : Nat) (hx : x < fI) : ∃ m i : Nat, double.read x = .number false m (-1074 + (i : Int)) ∧ val x = m * 2 ^ i ∧ m < 2 * fB := by
  have h63 : x < 9223372036854775808 := by simp only [fI] at hx; omega
  rw [read_is x h63]
  unfold val
  by_cases h : x < fB
  · rw [if_pos h, if_pos h]
    exact ⟨x, 0, rfl, by simp, by omega⟩
  · rw [if_neg h, if_neg h, if_pos hx]
    have : x % fB < fB := Nat.mod_lt _ (by decide)
    exact ⟨_, _, rfl, rfl, by omega⟩
/-- What a power of 2 from 1 on is read as. -/
theorem read_pow (k : Nat) (hk : k ≤ 60) : double.read (fl 1 (1074 + k)) = .number false fB ((k : Int) - 52) := by
  have e : fl 1 (1074 + k) = (1023 + k) * fB := by
    have h2 : val ((1023 + k) * fB) = 1 * pw (1074 + k) := by
      rw [val_pw _ (by have : 1 * fB ≤ (1023 + k) * fB := Nat.mul_le_mul_right _ (by omega)
                       omega), Nat.mul_mod_left, Nat.mul_div_cancel _ (by decide), Nat.add_zero, show fB = pw 52 from by decide, ← pw_add, Nat.one_mul]
      congr 1
      omega
    unfold fl
    rw [← h2]
    refine near_val _ ?_
    have : (1023 + k) * fB ≤ 1083 * fB := Nat.mul_le_mul_right _ (by omega)
    simp only [fB, fI] at *
    omega
  rw [e]
  have hlt : (1023 + k) * fB ≤ 1083 * fB := Nat.mul_le_mul_right _ (by omega)
  have hge : 1 * fB ≤ (1023 + k) * fB := Nat.mul_le_mul_right _ (by omega)
  rw [read_is _ (by simp only [fB] at *; omega), if_neg (by omega), if_pos (by simp only [fB, fI] at *; omega), Nat.mul_mod_left, Nat.mul_div_cancel _ (by decide), Nat.add_zero]
  congr 1
  omega
/-- Division by a power of 2. -/
theorem div_fl (m e g k q : Nat) (hm : m < pw q) (hq : q ≤ 53) (hk : k ≤ 60) (he : e ≤ 1500) (hg : e = g + k) : double.div (fl m e) (fl 1 (1074 + k)) = some (fl m g) := by
  obtain ⟨a1, a2⟩ := fl_ok m e q hm hq he
  obtain ⟨M, i, r1, v1, hM⟩ := read_val2 (fl m e) a1
  unfold Format.div
  rw [r1, read_pow k hk]
  have h0 : ¬ fB = 0 := by decide
  simp only [Datum.quotient]
  rw [if_neg h0]
  simp only [Option.map_some]
  have hl : fB.log2 = 52 := by decide
  have hf : double.fractionBits = 52 := rfl
  rw [hl, hf]
  have hMl : M.log2 ≤ 52 := by
    by_cases hz : M = 0
    · rw [hz]; decide
    · have := (Nat.log2_lt hz).2 (show M < 2 ^ 53 from hM)
      omega
  obtain ⟨more, hmore⟩ : ∃ more, 52 + 2 + 52 - M.log2 = more + 52 := ⟨54 - M.log2, by omega⟩
  rw [hmore]
  have e2 : fB = 2 ^ 52 := by decide
  have hd : M <<< (more + 52) = M * 2 ^ more * fB := by rw [Nat.shiftLeft_eq, Nat.pow_add, Nat.mul_assoc, e2]
  rw [hd, Nat.mul_div_cancel _ (by decide), Nat.mul_mod_left]
  show some (double.nearest false (2 * (M * 2 ^ more) + 0) _) = _
  have hp := nearest_near (1074 + k + (more + 52)) (2 * (M * 2 ^ more) + 0) (-1074 + (i : Int) - ((k : Int) - 52) - ((more + 52 : Nat) : Int) - 1) (i + 51) (by omega)
  refine congrArg some (hp.trans ?_)
  have hv : (2 * (M * 2 ^ more) + 0) * 2 ^ (i + 51) = m * pw g * 2 ^ (k + (more + 52)) := by
    have h1 : m * pw g * 2 ^ (k + (more + 52)) = (m * pw e) * 2 ^ (more + 52) := by
      rw [hg, pw_add, Nat.pow_add 2 k, ← Nat.mul_assoc, ← Nat.mul_assoc]
      rfl
    rw [h1, ← a2, v1, Nat.add_zero, Nat.pow_add, Nat.pow_add 2 more 52, show (2 : Nat) ^ 52 = 2 * 2 ^ 51 from by decide]
    generalize (2 : Nat) ^ more = A
    generalize (2 : Nat) ^ i = B
    generalize (2 : Nat) ^ 51 = C
    rw [Nat.mul_assoc M B, Nat.mul_left_comm B A, Nat.mul_left_comm B 2 C]
    rw [Nat.mul_assoc 2, Nat.mul_assoc M A, Nat.mul_left_comm 2 M, Nat.mul_left_comm 2 A]
  rw [hv]
  unfold fl
  have := near_scale 1074 (m * pw g) (k + (more + 52))
  rw [← Nat.add_assoc] at this
  exact this
end Go.Proofs.YtcmiappiocfbiaaGreatDoor
end
/- Plane: targets of one's own. -/
section
namespace Go.Proofs.YtcmiappiocfbiaaGreatDoor
open Go.ChangeShapes Go.WideShapes Go.ChangeAt Go.RowKit

def tgRow (t : Tg) : List Value := [.string t.1, .float .f64 t.2]
def rowsT (l : List Tg) : List Value := l.flatMap tgRow
theorem rowsT_length (l : List Tg) : (rowsT l).length = l.length * 2 := by
  induction l with
  | nil => rfl
  | cons x xs ih =>
    simp only [rowsT, List.flatMap_cons, List.length_append, List.length_cons] at ih ⊢
    rw [ih, show (tgRow x).length = 2 from rfl]
    omega
theorem rowsT_get : ∀ (xs : List Tg) (i f : Nat) (hi : i < xs.length) (_ : f < 2), (rowsT xs)[i * 2 + f]? = (tgRow xs[i])[f]?
  | [], i, _, hi, _ => by simp at hi
  | x :: xs, 0, f, _, hf => by
    simp only [rowsT, List.flatMap_cons, Nat.zero_mul, Nat.zero_add, List.getElem_cons_zero]
    rw [List.getElem?_append_left (show f < (tgRow x).length from hf)]
  | x :: xs, i + 1, f, hi, hf => by
    have ih := rowsT_get xs i f (by simpa using hi) hf
    simp only [rowsT, List.flatMap_cons, List.getElem_cons_succ] at ih ⊢
    rw [List.getElem?_append_right (by rw [show (tgRow x).length = 2 from rfl]; omega)]
    have e4 : (i + 1) * 2 + f - (tgRow x).length = i * 2 + f := by rw [show (tgRow x).length = 2 from rfl]; omega
    rw [e4]
    exact ih
theorem tg_oneCell (l : List Tg) : ∀ u ∈ rowsT l, u.oneCell' = true := by
  intro u hu
  obtain ⟨t, _, ht⟩ := List.mem_flatMap.1 hu
  simp only [tgRow, List.mem_cons, List.not_mem_nil, or_false] at ht
  rcases ht with rfl | rfl <;> rfl
theorem infoT : (Tryz.prog.info? 41).map (fun i => (i.zero, i.size, i.bytes)) = some (some (.agg #[.string ByteArray.empty, .float .f64 0]), 2, 24) := by kernel_rfl
/-- Targets of one's own. -/
def OwnT (base : Nat) (w : World) (sp : Option Addr) (c : Nat) (l : List Tg) : Prop := w.ownsRow base 41 2 (.slice sp l.length c) l.length (rowsT l)
theorem OwnT.ofNil (base : Nat) (w : World) : OwnT base w none 0 [] := w.ownsRow_nil base 41 2
theorem OwnT.at_ {base : Nat} {w : World} {sp : Option Addr} {c : Nat} {l : List Tg} (h : OwnT base w sp c l) (hl : ∀ t ∈ l, t.2 < 18446744073709551616) : TgsAt w sp l := by
  refine ⟨hl, fun i hi => ?_⟩
  rcases h.2 with ⟨hv, h0⟩ | ⟨g, cap, cur, hv, hb, hg, hle, hmx, hsz, ht⟩
  · omega
  · simp only [Value.slice.injEq] at hv
    obtain ⟨rfl, _, rfl⟩ := hv
    refine ⟨g, 0, rfl, ?_, ?_⟩
    · have hk := rowsT_get l i 0 hi (by omega)
      rw [Nat.zero_add, cell_of_row w g _ cur _ _ hg, ← Array.getElem?_toList]
      have hj : i * 2 + 0 < l.length * 2 := by omega
      rw [← ht, List.getElem?_take, if_pos hj] at hk
      exact hk
    · have hk := rowsT_get l i 1 hi (by omega)
      rw [Nat.zero_add, cell_of_row w g _ cur _ _ hg, ← Array.getElem?_toList]
      have hj : i * 2 + 1 < l.length * 2 := by omega
      rw [← ht, List.getElem?_take, if_pos hj] at hk
      exact hk
theorem OwnT.below {base : Nat} {w w' : World} {sp : Option Addr} {c : Nat} {l : List Tg} (h : OwnT base w sp c l) (hb : Below w.heap.size w w') : OwnT base w' sp c l := by
  refine ⟨h.1, ?_⟩
  rcases h.2 with hv | ⟨g, cap, cur, hv, hbg, hg, r⟩
  · exact .inl hv
  · exact .inr ⟨g, cap, cur, hv, hbg, (hb.block g (Array.getElem?_eq_some_iff.1 hg).1).trans hg, r⟩
end Go.Proofs.YtcmiappiocfbiaaGreatDoor
end
/- Plane: whether a prefix fits a path. -/
section
namespace Go.Proofs.YtcmiappiocfbiaaGreatDoor
open Go.ChangeShapes Go.WideShapes Go.ChangeAt Go.RowKit

def fitsL (p q : Tx) : Bool := p.isPrefixOf q && (p.length == q.length || p.getLast? == some 47 || q[p.length]? == some 47)
def preB (s p : ByteArray) : Bool := p.data.toList.isPrefixOf s.data.toList
theorem data_len (s : ByteArray) : s.data.toList.length = s.size := by simp
theorem preB_is (s p : ByteArray) : ((s.extract 0 p.size).toList == p.toList) = preB s p := by
  rw [ByteArray.toList_eq, ByteArray.toList_eq]
  unfold preB
  rw [Bool.eq_iff_iff, beq_iff_eq, List.isPrefixOf_iff_prefix, List.prefix_iff_eq_take, data_len]
  have e : (s.extract 0 p.size).data.toList = s.data.toList.take p.size := by simp [ByteArray.data_extract]
  rw [e]
  exact eq_comm
theorem preB_no (s p : ByteArray) (h : ¬ p.size ≤ s.size) : preB s p = false := by
  unfold preB
  cases hc : p.data.toList.isPrefixOf s.data.toList with
  | false => rfl
  | true =>
    have := (List.isPrefixOf_iff_prefix.1 hc).length_le
    rw [data_len, data_len] at this
    omega
set_option maxHeartbeats 2000000 in
theorem hasPre_calls (s p : ByteArray) (w : World) : Calls Tryz.prog 84 #[.string s, .string p] w fun e w' => e = .returned (.bool (preB s p)) ∧ w' = w := by
  by_cases h : p.size ≤ s.size
  · have h1 : (p.size : Int) ≤ (s.size : Int) := by omega
    have h2 := preB_is s p
    go_enter Tryz.func84, Tryz.ntmps84
    go_wp2
    go_ret
    exact ⟨rfl, rfl⟩
  · have h1 : ¬ (p.size : Int) ≤ (s.size : Int) := by omega
    have h2 := preB_no s p h
    go_enter Tryz.func84, Tryz.ntmps84
    go_wp2
    go_ret
    exact ⟨rfl, rfl⟩
def cutV (s p : ByteArray) : Value := match preB s p with | true => .tuple #[.string (s.extract p.size s.size), .bool true] | false => .tuple #[.string s, .bool false]
set_option maxHeartbeats 2000000 in
theorem cutPre0_calls (s p : ByteArray) (w : World) : Calls Tryz.prog 73 #[.string s, .string p] w fun e w' => e = .returned (cutV s p) ∧ w' = w := by
  have HP := hide (hasPre_calls s p w)
  cases h : preB s p with
  | true =>
    have h0 : (p.size : Int) ≤ (s.size : Int) := by
      by_cases q : p.size ≤ s.size
      · omega
      · rw [preB_no s p q] at h; cases h
    have E := hide (show cutV s p = .tuple #[.string (s.extract p.size s.size), .bool true] by unfold cutV; rw [h])
    rw [h] at HP
    clear h
    go_enter Tryz.func73, Tryz.ntmps73
    go_wp2_with (go_at_call 84; refine (unhide HP).mono ?_; rintro e w' ⟨rfl, rfl⟩)
    go_ret2
    exact ⟨by rw [unhide E]; rfl, rfl⟩
  | false =>
    have E := hide (show cutV s p = .tuple #[.string s, .bool false] by unfold cutV; rw [h])
    rw [h] at HP
    clear h
    go_enter Tryz.func73, Tryz.ntmps73
    go_wp2_with (go_at_call 84; refine (unhide HP).mono ?_; rintro e w' ⟨rfl, rfl⟩)
    go_ret2
    exact ⟨by rw [unhide E]; rfl, rfl⟩
set_option maxHeartbeats 2000000 in
theorem cutPre_calls (s p : ByteArray) (w : World) : Calls Tryz.prog 59 #[.string s, .string p] w fun e w' => e = .returned (cutV s p) ∧ w' = w := by
  have CP := hide (cutPre0_calls s p w)
  cases h : preB s p with
  | true =>
    have E := hide (show cutV s p = .tuple #[.string (s.extract p.size s.size), .bool true] by unfold cutV; rw [h])
    rw [unhide E] at CP ⊢
    clear h E
    go_enter Tryz.func59, Tryz.ntmps59
    go_wp2_with (go_at_call 73; refine (unhide CP).mono ?_; rintro e w' ⟨rfl, rfl⟩)
    go_ret2
    exact ⟨rfl, rfl⟩
  | false =>
    have E := hide (show cutV s p = .tuple #[.string s, .bool false] by unfold cutV; rw [h])
    rw [unhide E] at CP ⊢
    clear h E
    go_enter Tryz.func59, Tryz.ntmps59
    go_wp2_with (go_at_call 73; refine (unhide CP).mono ?_; rintro e w' ⟨rfl, rfl⟩)
    go_ret2
    exact ⟨rfl, rfl⟩
def sufB (p : ByteArray) : Bool := p.data.toList.getLast? == some 47
theorem sufB_is (p : ByteArray) (h : 1 ≤ p.size) : ((p.extract (p.size - 1) p.size).toList == [47]) = sufB p := by
  rw [ByteArray.toList_eq]
  unfold sufB
  have e : (p.extract (p.size - 1) p.size).data.toList = p.data.toList.drop (p.size - 1) := by
    simp [ByteArray.data_extract]
    rw [List.take_of_length_le (by simp)]
  rw [e]
  have hl := data_len p
  generalize p.data.toList = l at *
  rw [← hl] at h ⊢
  rw [List.getLast?_eq_getElem?, List.getElem?_eq_getElem (by omega), List.drop_eq_getElem_cons (by omega), List.drop_of_length_le (by omega)]
  rw [Bool.eq_iff_iff, beq_iff_eq, beq_iff_eq]
  simp
set_option maxHeartbeats 2000000 in
theorem hasSuf0_calls (p : ByteArray) (hp : p.size ≤ maxLen) (w : World) : Calls Tryz.prog 74 #[.string p, .string ⟨#[47]⟩] w fun e w' => e = .returned (.bool (sufB p)) ∧ w' = w := by
  simp only [maxLen] at hp
  have hs1 : (⟨#[47]⟩ : ByteArray).size = 1 := rfl
  have ht : (⟨#[47]⟩ : ByteArray).toList = [47] := by rw [ByteArray.toList_eq]
  by_cases h : 1 ≤ p.size
  · have h1 : (1 : Int) ≤ (p.size : Int) := by omega
    have h2 := sufB_is p h
    have h3 : IntKind.i64.wrap ((p.size : Int) - 1) = ((p.size - 1 : Nat) : Int) := by rw [IntKind.wrap_i64]; omega
    have h4 : ((p.size - 1 : Nat) : Int) = (p.size : Int) - 1 := by omega
    have h5 : ((p.size : Int) - 1).toNat = p.size - 1 := by omega
    go_enter Tryz.func74, Tryz.ntmps74
    go_wp2
    go_ret
    exact ⟨rfl, rfl⟩
  · have h1 : ¬ (1 : Int) ≤ (p.size : Int) := by omega
    have h2 : sufB p = false := by
      have : p.data.toList = [] := List.eq_nil_of_length_eq_zero (by rw [data_len]; omega)
      unfold sufB
      rw [this]
      rfl
    go_enter Tryz.func74, Tryz.ntmps74
    go_wp2
    go_ret
    exact ⟨rfl, rfl⟩
theorem hasSuf_calls (p : ByteArray) (hp : p.size ≤ maxLen) (w : World) : Calls Tryz.prog 60 #[.string p, .string ⟨#[47]⟩] w fun e w' => e = .returned (.bool (sufB p)) ∧ w' = w := by
  have CP := hide (hasSuf0_calls p hp w)
  clear hp
  generalize sufB p = b at *
  go_enter Tryz.func60, Tryz.ntmps60
  go_wp2_with (go_at_call 74; refine (unhide CP).mono ?_; rintro e w' ⟨rfl, rfl⟩)
  go_ret
  exact ⟨rfl, rfl⟩
end Go.Proofs.YtcmiappiocfbiaaGreatDoor
end
/- Plane: fits, and the document's. -/
section
namespace Go.Proofs.YtcmiappiocfbiaaGreatDoor
open Go.ChangeShapes Go.WideShapes Go.ChangeAt Go.RowKit

theorem byte47 (x : UInt8) : (((x.toNat : Nat) : Int) == 47) = (some x == some 47) := by
  rw [Bool.eq_iff_iff, beq_iff_eq, beq_iff_eq, Option.some.injEq, ← UInt8.toNat_inj]
  have : (47 : UInt8).toNat = 47 := rfl
  omega
theorem byte_at (q : ByteArray) (k : Nat) (h : k < q.size) (h0 : 0 < (q.extract k q.size).size) : ((((q.extract k q.size)[0]'h0).toNat : Int) == 47) = (some (q.data.toList[k]'(by rw [data_len]; exact h)) == some 47) := by
  rw [byte47]
  congr 2
  show (q.extract k q.size).data[0]'_ = _
  simp [ByteArray.data_extract]
set_option maxHeartbeats 2000000 in
theorem fits_calls (p q : ByteArray) (hp : p.size ≤ maxLen) (w : World) : Calls Tryz.prog 49 #[.string p, .string q] w fun e w' => e = .returned (.bool (fitsL p.data.toList q.data.toList)) ∧ w' = w := by
  have CC := hide (cutPre_calls q p w)
  have SC := hide (hasSuf_calls p hp w)
  simp only [maxLen] at hp
  cases h : preB q p with
  | false =>
    have E := hide (show fitsL p.data.toList q.data.toList = false by unfold fitsL; rw [show p.data.toList.isPrefixOf q.data.toList = false from h]; rfl)
    rw [show cutV q p = .tuple #[.string q, .bool false] by unfold cutV; rw [h]] at CC
    clear h
    go_enter Tryz.func49, Tryz.ntmps49
    go_wp2_with (go_at_call 59; refine (unhide CC).mono ?_; rintro e w' ⟨rfl, rfl⟩)
    go_ret
    exact ⟨by rw [unhide E]; rfl, rfl⟩
  | true =>
    have hle : p.size ≤ q.size := by
      by_cases z : p.size ≤ q.size
      · exact z
      · rw [preB_no q p z] at h; cases h
    have EF := hide (show fitsL p.data.toList q.data.toList = (p.size == q.size || sufB p || q.data.toList[p.size]? == some 47) by unfold fitsL; rw [show p.data.toList.isPrefixOf q.data.toList = true from h, data_len, data_len]; rfl)
    rw [show cutV q p = .tuple #[.string (q.extract p.size q.size), .bool true] by unfold cutV; rw [h]] at CC
    clear h
    have hz : (q.extract p.size q.size).size = q.size - p.size := by simp
    have hz0 : ((q.extract p.size q.size).toList == []) = decide (p.size = q.size) := by
      rw [ByteArray.toList_eq, Bool.eq_iff_iff, beq_iff_eq, decide_eq_true_eq, ← List.length_eq_zero_iff, data_len, hz]
      omega
    have hnil : (⟨#[]⟩ : ByteArray).toList = [] := by rw [ByteArray.toList_eq]
    by_cases h1 : p.size = q.size
    · rw [decide_eq_true h1] at hz0
      have E := hide (show fitsL p.data.toList q.data.toList = true by rw [unhide EF, h1]; simp)
      clear h1 hle
      go_enter Tryz.func49, Tryz.ntmps49
      go_wp2_with (go_at_call 59; refine (unhide CC).mono ?_; rintro e w' ⟨rfl, rfl⟩)
      go_ret
      exact ⟨by rw [unhide E]; rfl, rfl⟩
    · rw [decide_eq_false h1] at hz0
      cases hs : sufB p with
      | true =>
        rw [hs] at SC EF
        have E := hide (show fitsL p.data.toList q.data.toList = true by rw [unhide EF]; simp)
        clear h1 hle
        go_enter Tryz.func49, Tryz.ntmps49
        go_wp2_with (first | (go_at_call 59; refine (unhide CC).mono ?_; rintro e w' ⟨rfl, rfl⟩) | (go_at_call 60; refine (unhide SC).mono ?_; rintro e w' ⟨rfl, rfl⟩))
        go_ret
        exact ⟨by rw [unhide E]; rfl, rfl⟩
      | false =>
        rw [hs] at SC EF
        have hlt : p.size < q.size := by omega
        go_enter Tryz.func49, Tryz.ntmps49
        go_wp2_with (first | (go_at_call 59; refine (unhide CC).mono ?_; rintro e w' ⟨rfl, rfl⟩) | (go_at_call 60; refine (unhide SC).mono ?_; rintro e w' ⟨rfl, rfl⟩))
        go_ret
        refine ⟨?_, rfl⟩
        rw [unhide EF, show (p.size == q.size) = false by simpa using h1, Bool.false_or, Bool.false_or, List.getElem?_eq_getElem (by rw [data_len]; exact hlt)]
        simp only [Array.getD_eq_getD_getElem?]
        exact congrArg (fun b => Ending.returned (Value.bool b)) (byte_at q p.size hlt _)
theorem sufB_at (p : ByteArray) (h : p.size - 1 < p.size) : (((p[p.size - 1].toNat : Nat) : Int) == 47) = sufB p := by
  unfold sufB
  rw [List.getLast?_eq_getElem?, List.getElem?_eq_getElem (by rw [data_len]; exact h), byte47]
  simp only [data_len]
  rfl
set_option maxHeartbeats 2000000 in
theorem rfits_calls (p q : ByteArray) (hp : p.size ≤ maxLen) (hq : q.size ≤ maxLen) (w : World) : Calls Tryz.prog 41 #[.string p, .string q] w fun e w' => e = .returned (.bool (fitsL p.data.toList q.data.toList)) ∧ w' = w := by
  simp only [maxLen] at hp hq
  have h2 := preB_is q p
  have hnil : (⟨#[]⟩ : ByteArray).toList = [] := by rw [ByteArray.toList_eq]
  by_cases hle : p.size ≤ q.size
  · have i1 : (p.size : Int) ≤ (q.size : Int) := by omega
    have i2 : ¬ (q.size : Int) < (p.size : Int) := by omega
    cases h : preB q p with
    | false =>
      rw [h] at h2
      have E := hide (show fitsL p.data.toList q.data.toList = false by unfold fitsL; rw [show p.data.toList.isPrefixOf q.data.toList = false from h]; rfl)
      clear h
      go_enter Tryz.func41, Tryz.ntmps41
      go_wp2
      go_ret
      exact ⟨by rw [unhide E]; rfl, rfl⟩
    | true =>
      rw [h] at h2
      have EF := hide (show fitsL p.data.toList q.data.toList = (p.size == q.size || sufB p || q.data.toList[p.size]? == some 47) by unfold fitsL; rw [show p.data.toList.isPrefixOf q.data.toList = true from h, data_len, data_len]; rfl)
      clear h
      by_cases h1 : p.size = q.size
      · have i3 : (q.size : Int) = (p.size : Int) := by omega
        have E := hide (show fitsL p.data.toList q.data.toList = true by rw [unhide EF, h1]; simp)
        clear h1 hle
        go_enter Tryz.func41, Tryz.ntmps41
        go_wp2
        go_ret
        exact ⟨by rw [unhide E]; rfl, rfl⟩
      · have i3 : ¬ (q.size : Int) = (p.size : Int) := by omega
        have i4 : (p.size : Int) < (q.size : Int) := by omega
        have hlt : p.size < q.size := by omega
        have EI := hide (show fitsL p.data.toList q.data.toList = (sufB p || (((q[p.size].toNat : Nat) : Int) == 47)) by rw [unhide EF, show (p.size == q.size) = false by simpa using h1, Bool.false_or, List.getElem?_eq_getElem (by rw [data_len]; exact hlt), byte47]; rfl)
        clear h1 hle EF
        cases hb : (((q[p.size].toNat : Nat) : Int) == 47) with
        | true =>
          have E := hide (show fitsL p.data.toList q.data.toList = true by rw [unhide EI, hb, Bool.or_true])
          go_enter Tryz.func41, Tryz.ntmps41
          go_wp2
          go_ret
          exact ⟨by rw [unhide E]; rfl, rfl⟩
        | false =>
          have E := hide (show fitsL p.data.toList q.data.toList = sufB p by rw [unhide EI, hb, Bool.or_false])
          by_cases hp0 : p.size = 0
          · have hz0 : (p.toList == []) = true := by
              rw [ByteArray.toList_eq, beq_iff_eq]
              exact List.eq_nil_of_length_eq_zero (by rw [data_len]; exact hp0)
            have hs : sufB p = false := by
              have : p.data.toList = [] := List.eq_nil_of_length_eq_zero (by rw [data_len]; omega)
              unfold sufB
              rw [this]
              rfl
            rw [hs] at E
            clear hp0 hs EI
            go_enter Tryz.func41, Tryz.ntmps41
            go_wp2
            go_ret
            exact ⟨by rw [unhide E]; rfl, rfl⟩
          · have hz0 : (p.toList == []) = false := by
              rw [ByteArray.toList_eq, beq_eq_false_iff_ne]
              intro e
              have := congrArg List.length e
              rw [data_len] at this
              exact hp0 this
            have h3 : IntKind.i64.wrap ((p.size : Int) - 1) = ((p.size - 1 : Nat) : Int) := by rw [IntKind.wrap_i64]; omega
            have h4 : ((p.size - 1 : Nat) : Int) = (p.size : Int) - 1 := by omega
            have h5 : ((p.size : Int) - 1).toNat = p.size - 1 := by omega
            have h6 : (0 : Int) ≤ (p.size : Int) - 1 := by omega
            have h7 : p.size - 1 < p.size := by omega
            have h8 := sufB_at p h7
            clear hp0 EI
            go_enter Tryz.func41, Tryz.ntmps41
            go_wp2
            go_ret
            exact ⟨by rw [unhide E, ← h8]; rfl, rfl⟩
  · have i1 : (q.size : Int) < (p.size : Int) := by omega
    have E := hide (show fitsL p.data.toList q.data.toList = false by unfold fitsL; rw [show p.data.toList.isPrefixOf q.data.toList = false from preB_no q p hle]; rfl)
    clear hle h2
    go_enter Tryz.func41, Tryz.ntmps41
    go_wp2
    go_ret
    exact ⟨by rw [unhide E]; rfl, rfl⟩
end Go.Proofs.YtcmiappiocfbiaaGreatDoor
end
/- Plane: the route of a host and a path. -/
section
namespace Go.Proofs.YtcmiappiocfbiaaGreatDoor
open Go.ChangeShapes Go.WideShapes Go.ChangeAt Go.RowKit

/-- A route: host, prefix, pool. -/
structure Rt where
  h : ByteArray
  p : ByteArray
  l : ByteArray
def rtVal (r : Rt) : Value := .agg #[.string r.h, .string r.p, .string r.l]
def rt0 : Rt := ⟨⟨#[]⟩, ⟨#[]⟩, ⟨#[]⟩⟩
structure RtsAt (w : World) (a : Option Addr) (l : List Rt) : Prop where
  sz : ∀ r ∈ l, r.h.size ≤ maxLen ∧ r.p.size ≤ maxLen ∧ r.l.size ≤ maxLen
  cell : ∀ i (hi : i < l.length), ∃ b off, a = some ⟨b, off, none⟩ ∧ w.cell? ⟨b, off + i * 3, none⟩ = some (.string l[i].h) ∧ w.cell? ⟨b, off + i * 3 + 1, none⟩ = some (.string l[i].p) ∧ w.cell? ⟨b, off + i * 3 + 2, none⟩ = some (.string l[i].l)
theorem RtsAt.later {w w' : World} {a : Option Addr} {l : List Rt} (h : RtsAt w a l) (hb : Below w.heap.size w w') : RtsAt w' a l :=
  ⟨h.sz, fun i hi => by obtain ⟨b, off, e, h1, h2, h3⟩ := h.cell i hi; exact ⟨b, off, e, cell_later hb h1, cell_later hb h2, cell_later hb h3⟩⟩
def okR (h q : ByteArray) (r : Rt) : Bool := (r.h.toList == h.toList) && fitsL r.p.data.toList q.data.toList
/-- The first of the longest that fit, of the first j routes. -/
def bestN (h q : ByteArray) (l : List Rt) : Nat → Option Nat
  | 0 => none
  | j + 1 => if okR h q (l.getD j rt0) = true then (match bestN h q l j with
      | none => some j
      | some b => if (l.getD b rt0).p.size < (l.getD j rt0).p.size then some j else some b) else bestN h q l j
theorem bestN_lt (h q : ByteArray) (l : List Rt) : ∀ j b, bestN h q l j = some b → b < j
  | 0, b, e => by cases e
  | j + 1, b, e => by
    unfold bestN at e
    have ih := bestN_lt h q l j
    split at e
    · split at e
      · cases e; omega
      · rename_i b' hb
        have := ih b' hb
        split at e <;> cases e <;> omega
    · have := ih b e; omega
theorem rt_at (l : List Rt) (j : Nat) (hj : j < l.length) : l.getD j rt0 = l[j] := by
  rw [List.getD_eq_getElem?_getD, List.getElem?_eq_getElem hj]; rfl
theorem fcell0 {w : World} {j : Nat} {cs : Array Value} {T : TypeId} (h : w.heap[j]? = some (.cells cs T (0, 0))) (f : Nat) (v : Value) (hv : cs[f]? = some v) : w.cell? ⟨j, f, none⟩ = some v := by
  rw [cell_of_row _ _ _ _ _ _ h, hv]
theorem grown_set0 (w : World) (j k : Nat) (v : Value) : w.grownBy (w.setCell ⟨j, k, none⟩ v) (some j) :=
  ⟨rfl, rfl, rfl, by simp [World.setCell], fun i _ hne => heap_setCell_other w ⟨j, k, none⟩ i v (fun e => hne (by rw [e]))⟩
theorem set3 {w : World} {g : Nat} {a b c x y z : Value} {T : TypeId} (h : w.heap[g]? = some (.cells #[a, b, c] T (0, 0))) : (((w.setCell ⟨g, 0, none⟩ x).setCell ⟨g, 1, none⟩ y).setCell ⟨g, 2, none⟩ z).heap[g]? = some (.cells #[x, y, z] T (0, 0)) ∧ w.grownBy (((w.setCell ⟨g, 0, none⟩ x).setCell ⟨g, 1, none⟩ y).setCell ⟨g, 2, none⟩ z) (some g) := by
  have h1 := heap_setCell_same w g 0 #[a, b, c] T x h
  have h2 := heap_setCell_same _ g 1 _ T y h1
  have h3 := heap_setCell_same _ g 2 _ T z h2
  exact ⟨h3, ((grown_set0 w g 0 x).trans (grown_set0 _ g 1 y)).trans (grown_set0 _ g 2 z)⟩
/-- What Find answers. -/
def findV (l : List Rt) : Option Nat → Value
  | some b => .tuple #[rtVal (l.getD b rt0), .bool true]
  | none => .tuple #[rtVal rt0, .bool false]
def bestI : Option Nat → Int
  | some b => (b : Int)
  | none => -1
section
variable {w : World} {a : Option Addr} {l : List Rt}
set_option maxRecDepth 20000 in
set_option maxHeartbeats 8000000 in
theorem find_calls (h : RtsAt w a l) (n c : Nat) (hn : l.length = n) (hx : n ≤ maxLen) (ver : Int) (pa : Option Addr) (pn pc : Nat) (ho q : ByteArray) :
    Calls Tryz.prog 26 #[.agg #[.int .i64 ver, .slice a n c, .slice pa pn pc], .string ho, .string q] w fun e w' => e = .returned (findV l (bestN ho q l n)) ∧ Below w.heap.size w w' := by
  have H := hide h
  have HN := hide hn
  simp only [maxLen] at hx
  clear h hn
  have b1 : Below w.heap.size w (w.alloc (.cells #[.int .i64 ver, .slice a n c, .slice pa pn pc] 28)) := (Below.refl _ _).alloc (Nat.le_refl _) _
  have b2 := b1.alloc b1.size (.cells #[.string ⟨#[]⟩, .string ⟨#[]⟩, .string ⟨#[]⟩] 65)
  have X1 := hide (show ((w.alloc (.cells #[.int .i64 ver, .slice a n c, .slice pa pn pc] 28)).alloc (.cells #[.string ⟨#[]⟩, .string ⟨#[]⟩, .string ⟨#[]⟩] 65)).heap[w.heap.size]? = some (.cells #[.int .i64 ver, .slice a n c, .slice pa pn pc] 28 (0, 0)) by rw [Below.heap_alloc _ _ _ (by simp)]; exact heap_new _ _)
  have B2 := hide b2
  have s1 : (w.alloc (.cells #[.int .i64 ver, .slice a n c, .slice pa pn pc] 28)).heap.size = w.heap.size + 1 := by simp
  have X2 := hide (show ((w.alloc (.cells #[.int .i64 ver, .slice a n c, .slice pa pn pc] 28)).alloc (.cells #[.string ⟨#[]⟩, .string ⟨#[]⟩, .string ⟨#[]⟩] 65)).heap[w.heap.size + 1]? = some (.cells #[.string ⟨#[]⟩, .string ⟨#[]⟩, .string ⟨#[]⟩] 65 (0, 0)) by rw [← s1]; exact heap_new _ _)
  clear b1 b2 s1
  go_enter Tryz.func26, Tryz.ntmps26
  go_wp2_with fail
  generalize ((w.alloc (.cells #[.int .i64 ver, .slice a n c, .slice pa pn pc] 28)).alloc (.cells #[.string ⟨#[]⟩, .string ⟨#[]⟩, .string ⟨#[]⟩] 65)) = W2 at *
  have k1 := fcell0 (unhide X1) 1 _ rfl
  have r0 := fcell0 (unhide X2) 0 _ rfl
  have r1 := fcell0 (unhide X2) 1 _ rfl
  have r2 := fcell0 (unhide X2) 2 _ rfl
  have FZ := hide (show ∀ (W : World) (i : Nat), Below W2.heap.size W2 W → W.frozen? ⟨w.heap.size + 1, i, none⟩ = false from fun W i hb => by simp [World.frozen?, later_block hb (unhide X2)])
  go_loopw [8, 14] (fun t i wr => ∃ j : Nat, j ≤ n ∧ i = .int .i64 (j : Int) ∧ t = .int .i64 (bestI (bestN ho q l j)) ∧ Hid (Below W2.heap.size W2 wr)) (fun _ i _ => n - (intOf i).toNat)
  case atStart => exact ⟨0, by omega, rfl, rfl, hide (Below.refl _ _)⟩
  case round =>
    obtain ⟨j, hj, rfl, rfl, B⟩ := hrel
    have F := hide ((unhide B2).trans ((unhide B).mono (unhide B2).size))
    have c1 := cell_later (unhide B) k1
    have z0 := cell_later (unhide B) r0
    have z1 := cell_later (unhide B) r1
    have z2 := cell_later (unhide B) r2
    have f0 := unhide FZ wr 0 (unhide B)
    have f1 := unhide FZ wr 1 (unhide B)
    have f2 := unhide FZ wr 2 (unhide B)
    by_cases hjn : j < n
    · have y0 : (0 : Int) ≤ (j : Int) := by omega
      have y1 : (j : Int) < (n : Int) := by omega
      have hjl : j < l.length := by rw [unhide HN]; exact hjn
      obtain ⟨b, off, rfl, q0, q1, q2⟩ := (unhide H).cell j hjl
      have p0 := cell_later (unhide F) q0
      have p1 := cell_later (unhide F) q1
      have p2 := cell_later (unhide F) q2
      have hsz := (unhide H).sz _ (List.getElem_mem hjl)
      have RA := hide (rt_at l j hjl)
      have HB := hide (show bestN ho q l (j + 1) = if okR ho q l[j] = true then (match bestN ho q l j with
        | none => some j
        | some b => if (l.getD b rt0).p.size < l[j].p.size then some j else some b) else bestN ho q l j by rw [← unhide RA]; rfl)
      have PB := hide (show ∀ b' : Nat, bestN ho q l j = some b' → b' < n ∧ w.cell? ⟨b, off + b' * 3 + 1, none⟩ = some (.string (l.getD b' rt0).p) from fun b' hb' => by
        have hlt := bestN_lt ho q l j b' hb'
        have hbl : b' < l.length := by omega
        obtain ⟨bb, oo, e, _, q4, _⟩ := (unhide H).cell b' hbl
        simp only [Option.some.injEq, Addr.mk.injEq, and_true] at e
        obtain ⟨rfl, rfl⟩ := e
        rw [rt_at l b' hbl]
        exact ⟨by omega, q4⟩)
      generalize l[j] = r at *
      obtain ⟨rh, rp, rl⟩ := r
      simp only at p0 p1 p2 hsz HB
      have b3 : Below W2.heap.size W2 (wr.alloc (.cells #[.string rh, .string rp, .string rl] 65)) := (unhide B).alloc (unhide B).size _
      have bl : Below wr.heap.size wr (wr.alloc (.cells #[.string rh, .string rp, .string rl] 65)) := (Below.refl _ _).alloc (Nat.le_refl _) _
      have B3 := hide b3
      have BD := hide (show ∀ k, Below W2.heap.size W2 ((wr.alloc (.cells #[.string rh, .string rp, .string rl] 65)).drewN k) from fun k => ⟨b3.os, b3.tape, b3.output, b3.size, b3.block⟩)
      have d1 := cell_later bl c1
      have e1 := fcell0 (heap_new wr (.cells #[.string rh, .string rp, .string rl] 65)) 1 _ rfl
      have FT := hide (fits_calls rp q hsz.2.1 (wr.alloc (.cells #[.string rh, .string rp, .string rl] 65)))
      have FB := hide (fun (b' : Nat) (hb' : bestN ho q l j = some b') => (show b' < n ∧ (wr.alloc (.cells #[.string rh, .string rp, .string rl] 65)).cell? ⟨b, off + b' * 3 + 1, none⟩ = some (.string (l.getD b' rt0).p) from ⟨(unhide PB b' hb').1, cell_later bl (cell_later (unhide F) (unhide PB b' hb').2)⟩))
      have OK := hide (show okR ho q ⟨rh, rp, rl⟩ = ((rh.toList == ho.toList) && fitsL rp.data.toList q.data.toList) from rfl)
      clear q0 q1 q2 b3 bl hsz PB RA
      cases hh : (rh.toList == ho.toList) with
      | false =>
        have E := hide (show bestN ho q l (j + 1) = bestN ho q l j by rw [unhide HB, if_neg (by rw [unhide OK, hh]; simp)])
        generalize bestN ho q l j = bo at *
        go_wp2
        exact ⟨⟨j + 1, by omega, by go_num, by rw [unhide E], unhide B3⟩, by simp [intOf]; omega⟩
      | true =>
        cases hf : fitsL rp.data.toList q.data.toList with
        | false =>
          rw [hf] at FT
          have E := hide (show bestN ho q l (j + 1) = bestN ho q l j by rw [unhide HB, if_neg (by rw [unhide OK, hh, hf]; decide)])
          generalize bestN ho q l j = bo at *
          go_wp2_with (go_at_call 49; refine (unhide FT).mono ?_; rintro e w' ⟨rfl, rfl⟩)
          exact ⟨⟨j + 1, by omega, by go_num, by rw [unhide E], unhide B3⟩, by simp [intOf]; omega⟩
        | true =>
          rw [hf] at FT
          have E0 := hide (show bestN ho q l (j + 1) = (match bestN ho q l j with
            | none => some j
            | some b => if (l.getD b rt0).p.size < rp.size then some j else some b) by rw [unhide HB, if_pos (by rw [unhide OK, hh, hf]; rfl)])
          cases hb : bestN ho q l j with
          | none =>
            rw [hb] at E0
            simp only [bestI]
            clear hb HB FB
            go_wp2_with (go_at_call 49; refine (unhide FT).mono ?_; rintro e w' ⟨rfl, rfl⟩)
            go_quiet (fail)
            go_wp2
            exact ⟨⟨j + 1, by omega, by go_num, by rw [unhide E0], unhide BD _⟩, by simp [intOf]; omega⟩
          | some b' =>
            rw [hb] at E0
            obtain ⟨hbn, g1⟩ := unhide FB b' hb
            simp only [bestI] at E0 ⊢
            clear hb HB FB
            generalize (l.getD b' rt0).p = bp at *
            have v0 : ¬ ((b' : Int) < 0) := by omega
            have v1 : (0 : Int) ≤ (b' : Int) := by omega
            have v2 : (b' : Int) < (n : Int) := by omega
            have v3 : decide ((b' : Int) < 0) = false := decide_eq_false v0
            by_cases hl : bp.size < rp.size
            · have v4 : (bp.size : Int) < (rp.size : Int) := by omega
              rw [if_pos hl] at E0
              clear hl
              go_wp2_with (go_at_call 49; refine (unhide FT).mono ?_; rintro e w' ⟨rfl, rfl⟩)
              go_quiet (fail)
              go_wp2
              exact ⟨⟨j + 1, by omega, by go_num, by rw [unhide E0], unhide BD _⟩, by simp [intOf]; omega⟩
            · have v4 : ¬ (bp.size : Int) < (rp.size : Int) := by omega
              rw [if_neg hl] at E0
              clear hl
              go_wp2_with (go_at_call 49; refine (unhide FT).mono ?_; rintro e w' ⟨rfl, rfl⟩)
              go_quiet (fail)
              go_wp2
              exact ⟨⟨j + 1, by omega, by go_num, by rw [unhide E0], unhide BD _⟩, by simp [intOf]; omega⟩
    · obtain rfl : j = n := by omega
      have hjj : ¬ (j : Int) < (j : Int) := by omega
      have SE := hide (show ∀ x y z : Value, (((wr.setCell ⟨w.heap.size + 1, 0, none⟩ x).setCell ⟨w.heap.size + 1, 1, none⟩ y).setCell ⟨w.heap.size + 1, 2, none⟩ z).heap[w.heap.size + 1]? = some (.cells #[x, y, z] 65 (0, 0)) ∧ Below w.heap.size w (((wr.setCell ⟨w.heap.size + 1, 0, none⟩ x).setCell ⟨w.heap.size + 1, 1, none⟩ y).setCell ⟨w.heap.size + 1, 2, none⟩ z) from fun x y z => by
        obtain ⟨a1, a2⟩ := set3 (x := x) (y := y) (z := z) (later_block (unhide B) (unhide X2))
        exact ⟨a1, (unhide F).grown a2 (unhide F).size (fun g hg => by have := Option.some.inj hg; omega)⟩)
      cases hb : bestN ho q l j with
      | none =>
        simp only [bestI]
        go_wp2
        obtain ⟨a1, a2⟩ := unhide SE (.string ⟨#[]⟩) (.string ⟨#[]⟩) (.string ⟨#[]⟩)
        generalize (((wr.setCell ⟨w.heap.size + 1, 0, none⟩ (.string ⟨#[]⟩)).setCell ⟨w.heap.size + 1, 1, none⟩ (.string ⟨#[]⟩)).setCell ⟨w.heap.size + 1, 2, none⟩ (.string ⟨#[]⟩)) = W9 at *
        have g0 := fcell0 a1 0 _ rfl
        have g1 := fcell0 a1 1 _ rfl
        have g2 := fcell0 a1 2 _ rfl
        refine bodyPost_ret (v := findV l none) ?_ rfl ⟨rfl, a2⟩
        rw [results_cell_tmp rfl]
        go_simp
        rfl
      | some b' =>
        have hlt := bestN_lt ho q l j b' hb
        have hbl : b' < l.length := by rw [unhide HN]; exact hlt
        obtain ⟨b, off, rfl, q0, q1, q2⟩ := (unhide H).cell b' hbl
        have p0 := cell_later (unhide F) q0
        have p1 := cell_later (unhide F) q1
        have p2 := cell_later (unhide F) q2
        have EV := hide (show findV l (some b') = .tuple #[.agg #[.string l[b'].h, .string l[b'].p, .string l[b'].l], .bool true] by rw [← rt_at l b' hbl]; rfl)
        generalize l[b'] = r at *
        obtain ⟨rh, rp, rl⟩ := r
        simp only at p0 p1 p2 EV
        have v0 : ¬ ((b' : Int) < 0) := by omega
        have v1 : (0 : Int) ≤ (b' : Int) := by omega
        have v2 : (b' : Int) < (j : Int) := by omega
        simp only [bestI]
        clear q0 q1 q2
        go_wp2
        obtain ⟨a1, a2⟩ := unhide SE (.string rh) (.string rp) (.string rl)
        generalize (((wr.setCell ⟨w.heap.size + 1, 0, none⟩ (.string rh)).setCell ⟨w.heap.size + 1, 1, none⟩ (.string rp)).setCell ⟨w.heap.size + 1, 2, none⟩ (.string rl)) = W9 at *
        have g0 := fcell0 a1 0 _ rfl
        have g1 := fcell0 a1 1 _ rfl
        have g2 := fcell0 a1 2 _ rfl
        refine bodyPost_ret (v := findV l (some b')) ?_ rfl ⟨rfl, a2⟩
        rw [results_cell_tmp rfl, unhide EV]
        go_simp
end
end Go.Proofs.YtcmiappiocfbiaaGreatDoor
end
/- Plane: what must be whatever is asked. -/
section
namespace Go.Proofs.YtcmiappiocfbiaaGreatDoor
open Go.ChangeShapes Go.WideShapes Go.ChangeAt Go.RowKit

def liveL : List Tg := [(⟨#[97]⟩, 4607182418800017408), (⟨#[98]⟩, 0), (⟨#[99]⟩, 4613937818241073152)]
theorem live_w1 : weighN liveL 4596373779694328218 = some 0 := by decide +kernel
theorem live_w2 : weighN liveL 4598175219545276416 = some 2 := by decide +kernel
def liveR : List Rt := [⟨⟨#[104]⟩, ⟨#[47]⟩, ⟨#[112]⟩⟩, ⟨⟨#[104]⟩, ⟨#[47, 120]⟩, ⟨#[113]⟩⟩]
theorem live_r : bestN ⟨#[104]⟩ ⟨#[47, 120, 47, 121]⟩ liveR 2 = some 1 := by decide +kernel
theorem liveL_at {w : World} {g : Nat} (h : w.heap[g]? = some (.cells #[.string ⟨#[97]⟩, .float .f64 4607182418800017408, .string ⟨#[98]⟩, .float .f64 0, .string ⟨#[99]⟩, .float .f64 4613937818241073152] 41 (0, 0))) : TgsAt w (some ⟨g, 0, none⟩) liveL := by
  refine ⟨?_, fun i hi => ⟨g, 0, rfl, ?_⟩⟩
  · intro t ht
    simp only [liveL, List.mem_cons, List.not_mem_nil, or_false] at ht
    rcases ht with rfl | rfl | rfl <;> decide
  · match i, hi with
    | 0, _ => exact ⟨fcell0 h 0 _ rfl, fcell0 h 1 _ rfl⟩
    | 1, _ => exact ⟨fcell0 h 2 _ rfl, fcell0 h 3 _ rfl⟩
    | 2, _ => exact ⟨fcell0 h 4 _ rfl, fcell0 h 5 _ rfl⟩
    | i + 3, hi => simp [liveL] at hi; omega
theorem liveR_at {w : World} {g : Nat} (h : w.heap[g]? = some (.cells #[.string ⟨#[104]⟩, .string ⟨#[47]⟩, .string ⟨#[112]⟩, .string ⟨#[104]⟩, .string ⟨#[47, 120]⟩, .string ⟨#[113]⟩] 65 (0, 0))) : RtsAt w (some ⟨g, 0, none⟩) liveR := by
  refine ⟨?_, fun i hi => ⟨g, 0, rfl, ?_⟩⟩
  · intro t ht
    simp only [liveR, List.mem_cons, List.not_mem_nil, or_false] at ht
    rcases ht with rfl | rfl <;> decide
  · match i, hi with
    | 0, _ => exact ⟨fcell0 h 0 _ rfl, fcell0 h 1 _ rfl, fcell0 h 2 _ rfl⟩
    | 1, _ => exact ⟨fcell0 h 3 _ rfl, fcell0 h 4 _ rfl, fcell0 h 5 _ rfl⟩
    | i + 2, hi => simp [liveR] at hi; omega
set_option maxRecDepth 20000 in
set_option maxHeartbeats 4000000 in
theorem live10_calls (w : World) : Calls Tryz.prog 15 #[] w fun e w' => e = .returned (.bool true) ∧ Below w.heap.size w w' := by
  have b1 : Below w.heap.size w (w.alloc (.cells #[.string ⟨#[97]⟩, .float .f64 4607182418800017408, .string ⟨#[98]⟩, .float .f64 0, .string ⟨#[99]⟩, .float .f64 4613937818241073152] 41)) := (Below.refl _ _).alloc (Nat.le_refl _) _
  have B1 := hide b1
  have L1 := hide (liveL_at (heap_new w (.cells #[.string ⟨#[97]⟩, .float .f64 4607182418800017408, .string ⟨#[98]⟩, .float .f64 0, .string ⟨#[99]⟩, .float .f64 4613937818241073152] 41)))
  have W1 := hide (weigh_calls (unhide L1) 3 3 rfl (by omega) 4596373779694328218 (by decide))
  rw [live_w1] at W1
  have W2 := hide (fun W (hb : Below _ _ W) => weigh_calls ((unhide L1).later hb) 3 3 rfl (by omega) 4598175219545276416 (by decide))
  rw [live_w2] at W2
  have W3 := hide (fun (W : World) => find_calls (liveR_at (heap_new W (.cells #[.string ⟨#[104]⟩, .string ⟨#[47]⟩, .string ⟨#[112]⟩, .string ⟨#[104]⟩, .string ⟨#[47, 120]⟩, .string ⟨#[113]⟩] 65))) 2 2 rfl (by decide) 0 none 0 0 ⟨#[104]⟩ ⟨#[47, 120, 47, 121]⟩)
  rw [live_r] at W3
  have HA := hide (fun (W : World) => show Below W.heap.size W (W.alloc (.cells #[.string ⟨#[104]⟩, .string ⟨#[47]⟩, .string ⟨#[112]⟩, .string ⟨#[104]⟩, .string ⟨#[47, 120]⟩, .string ⟨#[113]⟩] 65)) from (Below.refl _ _).alloc (Nat.le_refl _) _)
  have hsf := run_storeF .plain
  unfold firstV at W1 W2
  rw [show findV liveR (some 1) = .tuple #[.agg #[.string ⟨#[104]⟩, .string ⟨#[47, 120]⟩, .string ⟨#[113]⟩], .bool true] from rfl] at W3
  clear b1
  go_enter Tryz.func15, Tryz.ntmps15
  go_wp2_with (first
    | (go_at_call 26
       refine (unhide W3 _).mono ?_
       rintro e V3 ⟨rfl, b3⟩
       have C3 := hide (((unhide C2).trans ((unhide HA V2).mono (unhide C2).size)).trans (b3.mono (Nat.le_trans (unhide C2).size (unhide HA V2).size)))
       have C4 := hide ((unhide C3).alloc (unhide C3).size (.cells #[.string ⟨#[104]⟩, .string ⟨#[47, 120]⟩, .string ⟨#[113]⟩] 65))
       clear b3)
    | (have hV : V1 = V1 := rfl
       clear hV
       go_at_call 25
       refine (unhide W2 V1 (unhide C1)).mono ?_
       rintro e V2 ⟨rfl, b2⟩
       have C2 := hide ((unhide D1).trans (b2.mono (unhide D1).size))
       clear b2)
    | (go_at_call 25
       refine (unhide W1).mono ?_
       rintro e V1 ⟨rfl, b1⟩
       have C1 := hide b1
       have D1 := hide ((unhide B1).trans (b1.mono (unhide B1).size))
       clear b1))
  go_ret
  exact ⟨rfl, unhide C4⟩
end Go.Proofs.YtcmiappiocfbiaaGreatDoor
end
