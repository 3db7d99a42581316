/- Heads: a field's line. -/
import Derived.Test.YtcmiappiocfbiaaGreatDoorHd6
import Derived.Laws.ResultCell
namespace Go.Proofs.YtcmiappiocfbiaaGreatDoor
open Go.ChangeShapes Go.WideShapes Go.ChangeAt Go.RowKit Go.Lib
set_option linter.unusedVariables false

/-- Tables of the library's that the walks read. -/
structure Lz (w : World) : Prop where
  mx : ∃ m, w.cell? ⟨Tryz.lays145_ren.g 1, 0, none⟩ = some (.int .i64 m)
  cv : CaseVar (Tryz.lays159_ren.g 13) caseA w
  u8 : Lib.Utf8Tabs (Tryz.lays159_ren.g 3) (Tryz.lays159_ren.g 4) w
theorem Lz.later {w w' : World} (h : Lz w) (hb : Below w.heap.size w w') : Lz w' :=
  ⟨let ⟨m, hm⟩ := h.mx; ⟨m, cell_later hb hm⟩, CaseVar_below h.cv hb, Utf8Tabs_below h.u8 hb⟩
theorem lowAny_calls (s : ByteArray) (hs : s.size < 35184372088832) (w : World) (hz : Lz w) : Calls Tryz.prog 81 #[.string s] w fun e w' => e = .returned (.string (stS (Lib.toLowerD s.data.toList))) ∧ Below w.heap.size w w' :=
  Any.strings_ToLower_any Tryz.lays159 Tryz.Builder_Extra_159 s w hs hz.cv hz.u8
theorem cut2_calls (s sep : ByteArray) (hne : sep.data.toList ≠ []) (hs : s.size < 4294967281) (w : World) (hz : Lz w) : Calls Tryz.prog 66 #[.string s, .string sep] w fun e w' => e = .returned (.tuple #[.string (stS (cutL sep.data.toList s.data.toList).1), .string (stS (behindL sep.data.toList s.data.toList)), .bool (cutL sep.data.toList s.data.toList).2.isSome]) ∧ Below w.heap.size w w' := by
  obtain ⟨m, hm⟩ := hz.mx
  refine (Any.strings_Cut Tryz.lays145 s sep m w hs hm).mono ?_
  rintro e w' ⟨rfl, n, rfl⟩
  rw [cut_is hne]
  exact ⟨rfl, below_drewN (Below.refl _ _) _⟩
/-- A block of one's own, and what lay below. -/
structure RC (B : Nat) (w : World) (g : Nat) (T : TypeId) (cs : Array Value) (W : World) : Prop where
  row : W.heap[g]? = some (.cells cs T (0, 0))
  low : B ≤ g
  base : B ≤ w.heap.size
  bel : Below B w W
section
variable {B : Nat} {w : World} {g : Nat} {T : TypeId} {cs : Array Value} {W W' : World}
theorem RC.new (w : World) (T : TypeId) (cs : Array Value) : RC w.heap.size w w.heap.size T cs (w.alloc (.cells cs T)) := ⟨heap_new _ _, Nat.le_refl _, Nat.le_refl _, (Below.refl _ _).alloc (Nat.le_refl _) _⟩
theorem RC.later (h : RC B w g T cs W) (hb : Below W.heap.size W W') : RC B w g T cs W' := ⟨later_block hb h.row, h.low, h.base, h.bel.trans (hb.mono (Nat.le_trans h.base h.bel.size))⟩
theorem RC.alloc (h : RC B w g T cs W) (o : Obj) : RC B w g T cs (W.alloc o) := h.later ((Below.refl _ _).alloc (Nat.le_refl _) o)
theorem RC.cell (h : RC B w g T cs W) (i : Nat) (v : Value) (hv : cs[i]? = some v) : W.cell? ⟨g, i, none⟩ = some v := box_cell h.row i v hv
theorem RC.froz (h : RC B w g T cs W) (i : Nat) : W.frozen? ⟨g, i, none⟩ = false := by simp [World.frozen?, h.row]
theorem RC.set (h : RC B w g T cs W) (i : Nat) (v : Value) : RC B w g T (cs.setIfInBounds i v) (W.setCell ⟨g, i, none⟩ v) :=
  ⟨heap_setCell_same W g i cs T v h.row, h.low, h.base, h.bel.setCell (p := ⟨g, i, none⟩) h.low v⟩
end
theorem RC.set2 {B : Nat} {w : World} {g : Nat} {T : TypeId} {a b : Value} {W : World} (h : RC B w g T #[a, b] W) (x y : Value) : RC B w g T #[x, y] ((W.setCell ⟨g, 0, none⟩ x).setCell ⟨g, 1, none⟩ y) := (h.set 0 x).set 1 y
theorem RC.set5 {B : Nat} {w : World} {g : Nat} {T : TypeId} {a b c d e : Value} {W : World} (h : RC B w g T #[a, b, c, d, e] W) (x y z u v : Value) : RC B w g T #[x, y, z, u, v] (((((W.setCell ⟨g, 0, none⟩ x).setCell ⟨g, 1, none⟩ y).setCell ⟨g, 2, none⟩ z).setCell ⟨g, 3, none⟩ u).setCell ⟨g, 4, none⟩ v) := ((((h.set 0 x).set 1 y).set 2 z).set 3 u).set 4 v

def fieldOk (line : Tx) : Bool := (cutL [58] line).2.isSome && isTokenL (cutL [58] line).1 && isValueL (trimB (behindL [58] line))
def fieldV (line : Tx) : Value := .tuple #[.agg #[.string (stS (Lib.toLowerD (cutL [58] line).1)), .string (stS (trimB (behindL [58] line)))], .bool (fieldOk line)]
theorem isK8_low (x : UInt8) (h : isK 8 x = true) : x.toNat < 128 := by
  by_cases h8 : x.toNat < 128
  · exact h8
  · unfold isK at h; rw [kindsN_high _ (by omega)] at h; cases h
theorem token_ascii {l : Tx} (h : isTokenL l = true) : ∀ b ∈ l, b.toNat < 128 := by
  unfold isTokenL at h
  rw [Bool.and_eq_true] at h
  exact fun b hb => isK8_low b (List.all_eq_true.1 h.2 b hb)
theorem fieldL_yes {line : Tx} (h : fieldOk line = true) : fieldL line = some ⟨Lib.toLowerD (cutL [58] line).1, trimB (behindL [58] line)⟩ := by
  unfold fieldL
  have h2 : ((cutL [58] line).2.isSome && isTokenL (cutL [58] line).1 && isValueL (trimB (behindL [58] line))) = true := h
  rw [if_pos h2]
  rw [Bool.and_eq_true, Bool.and_eq_true] at h2
  rw [Lib.toLowerD_ascii _ (token_ascii h2.1.2)]
  rfl
theorem fieldL_no {line : Tx} (h : fieldOk line = false) : fieldL line = none := by
  unfold fieldL
  have h2 : ((cutL [58] line).2.isSome && isTokenL (cutL [58] line).1 && isValueL (trimB (behindL [58] line))) = false := h
  rw [h2]; rfl
set_option maxRecDepth 20000 in
set_option maxHeartbeats 4000000 in
theorem readField_calls (s : ByteArray) (hs : s.size ≤ 4096) (w : World) (hz : Lz w) : Calls Tryz.prog 68 #[.string s] w fun e w' => e = .returned (fieldV s.data.toList) ∧ Below w.heap.size w w' := by
  have CC := hide (fun W => cut1_calls s 58 (by simp [maxLen]; omega) W)
  have hl1 : (cutL [58] s.data.toList).1.length ≤ s.size := by have := @cutL_len [58] s.data.toList; simpa using this
  have hl2 : (behindL [58] s.data.toList).length ≤ s.size := by have := @behindL_len [58] s.data.toList; simpa using this
  have hl3 : (trimB (behindL [58] s.data.toList)).length ≤ s.size := Nat.le_trans (trimS_len _ _) hl2
  unfold cutV1 at CC
  unfold fieldV fieldOk
  generalize (cutL [58] s.data.toList).1 = a at *
  generalize behindL [58] s.data.toList = b at *
  generalize (cutL [58] s.data.toList).2.isSome = d at *
  have TC := hide (fun W => trim_calls (stS b) (by simp [maxLen, stS_size]; omega) W)
  rw [stS_list] at TC
  generalize trimB b = v at *
  have LC := hide (fun W hz => lowAny_calls (stS a) (by rw [stS_size]; omega) W hz)
  have KC := hide (fun W => isToken_calls (stS a) (by simp [maxLen, stS_size]; omega) W)
  have VC := hide (fun W => isValue_calls (stS v) (by simp [maxLen, stS_size]; omega) W)
  rw [stS_list] at LC KC VC
  have HZ := hide hz
  have R0 := hide (RC.new w 86 #[.string ⟨#[]⟩, .string ⟨#[]⟩])
  clear hz
  generalize Lib.toLowerD a = la at *
  generalize isTokenL a = t1 at *
  generalize isValueL v = t2 at *
  generalize stS a = sa at *
  generalize stS b = sb at *
  generalize stS v = sv at *
  generalize stS la = sl at *
  clear hs hl1 hl2 hl3
  cases d <;> cases t1 <;> cases t2
  all_goals
    go_enter Tryz.func68, Tryz.ntmps68
    go_wp2_with (first
      | (go_at_call 66; refine (unhide CC _).mono ?_; rintro e W1 ⟨rfl, hb1⟩; have R1 := hide ((unhide R0).later hb1))
      | (go_at_call 80; refine (unhide TC _).mono ?_; rintro e W2 ⟨rfl, hb2⟩; have R2 := hide ((unhide R1).later hb2))
      | (go_at_call 81; refine (unhide LC _ ((unhide HZ).later (unhide R2).bel)).mono ?_; rintro e W3 ⟨rfl, hb3⟩; have R3 := hide ((unhide R2).later hb3)
         have z0 := (unhide R3).cell 0 _ rfl
         have z1 := (unhide R3).cell 1 _ rfl
         have f0 := (unhide R3).froz 0
         have f1 := (unhide R3).froz 1)
      | (go_at_call 79; refine (unhide KC _).mono ?_; rintro e W4 ⟨rfl, hb4⟩; have R3 := hide ((unhide R3).later hb4)
         have z0 := (unhide R3).cell 0 _ rfl
         have z1 := (unhide R3).cell 1 _ rfl
         have f0 := (unhide R3).froz 0
         have f1 := (unhide R3).froz 1)
      | (go_at_call 82; refine (unhide VC _).mono ?_; rintro e W5 ⟨rfl, hb5⟩; have R3 := hide ((unhide R3).later hb5)
         have z0 := (unhide R3).cell 0 _ rfl
         have z1 := (unhide R3).cell 1 _ rfl
         have f0 := (unhide R3).froz 0
         have f1 := (unhide R3).froz 1))
    have R9 := (unhide R3).set2 (.string sl) (.string sv)
    have g0 := R9.cell 0 _ rfl
    have g1 := R9.cell 1 _ rfl
    refine bodyPost_ret (v := .tuple #[.agg #[.string sl, .string sv], .bool _]) ?_ rfl ⟨rfl, R9.bel⟩
    rw [results_cell_tmp rfl]
    go_simp
    try rfl
end Go.Proofs.YtcmiappiocfbiaaGreatDoor
