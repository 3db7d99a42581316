/- Disk: contracts over what a disk is by the document. -/
import Derived.Test.YtijcpmbfhfppmaaGreatDoorDkk
namespace Go.Proofs.YtijcpmbfhfppmaaGreatDoor
open Go.ChangeShapes Go.WideShapes Go.ChangeAt Go.RowKit Go.Maps

/-- A disk in memory, from a block on, by the document. -/
structure Dv (base : Nat) (w : World) (d M room N : Nat) (ss : Ds) : Prop where
  le : base ≤ w.heap.size
  few : N ≤ 1000000
  at_ : ∃ fs, DiskAt base w d M room N fs ∧ sps fs = ss
section
variable {base d M room N : Nat} {w w' : World} {ss : Ds}
theorem Dv.later (h : Dv base w d M room N ss) (hb : Below w.heap.size w w') : Dv base w' d M room N ss := by
  obtain ⟨fs, h1, h2⟩ := h.at_
  exact ⟨Nat.le_trans h.le hb.size, h.few, fs, h1.later hb, h2⟩
theorem Dv.drew (h : Dv base w d M room N ss) : Dv base w.drew d M room N ss := by
  obtain ⟨fs, h1, h2⟩ := h.at_
  exact ⟨h.le, h.few, fs, h1.drew, h2⟩
theorem Dv.mono {N' : Nat} (h : Dv base w d M room N ss) (hN : N ≤ N') (hf : N' ≤ 1000000) : Dv base w d M room N' ss := by
  obtain ⟨fs, h1, h2⟩ := h.at_
  exact ⟨h.le, hf, fs, h1.mono hN, h2⟩
theorem Dv.rise (h : Dv base w d M room N ss) : Rises ss := by
  obtain ⟨fs, h1, rfl⟩ := h.at_
  exact h1.riseS
/-- How a call ends. -/
def VEnd (base d M room N : Nat) (w : World) (r : Nat × Ds) (e : Ending) (w' : World) : Prop := e = .returned (.int .i64 (r.1 : Int)) ∧ Dv base w' d M room N r.2 ∧ Below base w w'
theorem VEnd.of {r : Nat × Ds} {e : Ending} {fs : List Fe} (h : DiskAt base w d M room N fs) (hb : base ≤ w.heap.size) {N' : Nat} (hN : N' ≤ 1000000) (hE : DEnd base d M room N' w fs r e w') : VEnd base d M room N' w r e w' := by
  obtain ⟨he, fs', h1, hg, hs⟩ := hE
  exact ⟨he, ⟨Nat.le_trans hb hg.size, hN, fs', h1, hs⟩, DGrew.below h hb hg⟩
theorem vnew_calls (w : World) (z : Int) : Calls Tryz.prog 24 #[.int .i64 z] w fun e w' => ∃ d M, e = .returned (.pointer (some ⟨d, 0, none⟩)) ∧ Dv w.heap.size w' d M z.toNat 0 [] ∧ Below w.heap.size w w' := by
  refine (dnew_calls (base := w.heap.size) w (Nat.le_refl _) z).mono ?_
  rintro e W ⟨rfl, h, b⟩
  exact ⟨_, _, rfl, ⟨b.size, by omega, [], h, rfl⟩, b⟩
theorem vwrite_calls (h : Dv base w d M room N ss) (hN : N + 1 ≤ 1000000) (s : ByteArray) (hs : s.size ≤ maxLen) (z : Int) (hz64 : z ≤ 9223372036854775807) (xp : Option Addr) (xn xc : Nat) (o : List Nat) (ho : o.length = xn) (hxc : xn ≤ xc) (hB : BytesAt w xp o) (hx0 : xp = none → xc = 0) (hlo : ∀ b off, xp = some ⟨b, off, none⟩ → 0 < xn → b < base) (hxl : xn ≤ 140737488355328) :
    Calls Tryz.prog 36 #[.pointer (some ⟨d, 0, none⟩), .string s, .int .i64 z, .slice xp xn xc] w (VEnd base d M room (N + 1) w (dWrite room s.data.toList z o ss)) := by
  obtain ⟨fs, h1, rfl⟩ := h.at_
  refine (dwrite_calls h1 h.le h.few s hs z hz64 xp xn xc o ho hxc hB hx0 (fun b off e h0 hm => ?_) hxl).mono fun e w' hE => VEnd.of h1 h.le hN hE
  have := (h1.mut_lt hm).1
  have := hlo b off e h0
  omega
theorem vsync_calls (h : Dv base w d M room N ss) (s : ByteArray) (hs : s.size ≤ maxLen) :
    Calls Tryz.prog 37 #[.pointer (some ⟨d, 0, none⟩), .string s] w (VEnd base d M room N w (dSync s.data.toList ss)) := by
  obtain ⟨fs, h1, rfl⟩ := h.at_
  exact (dsync_calls h1 h.le s hs).mono fun e w' hE => VEnd.of h1 h.le h.few hE
theorem vcut_calls (h : Dv base w d M room N ss) (hN : N + 1 ≤ 1000000) (s : ByteArray) (hs : s.size ≤ maxLen) (z : Int) :
    Calls Tryz.prog 102 #[.pointer (some ⟨d, 0, none⟩), .string s, .int .i64 z] w (VEnd base d M room (N + 1) w (dCut s.data.toList z ss)) := by
  obtain ⟨fs, h1, rfl⟩ := h.at_
  exact (dcut_calls h1 h.le h.few s hs z).mono fun e w' hE => VEnd.of h1 h.le hN hE
theorem vremove_calls (h : Dv base w d M room N ss) (s : ByteArray) (hs : s.size ≤ maxLen) :
    Calls Tryz.prog 97 #[.pointer (some ⟨d, 0, none⟩), .string s] w (VEnd base d M room N w (dRemove s.data.toList ss)) := by
  obtain ⟨fs, h1, rfl⟩ := h.at_
  exact (dremove_calls h1 s hs).mono fun e w' hE => VEnd.of h1 h.le h.few hE
theorem vrename_calls (h : Dv base w d M room N ss) (a b : ByteArray) (ha : a.size ≤ maxLen) (hb : b.size ≤ maxLen) :
    Calls Tryz.prog 130 #[.pointer (some ⟨d, 0, none⟩), .string a, .string b] w (VEnd base d M room N w (dRename a.data.toList b.data.toList ss)) := by
  obtain ⟨fs, h1, rfl⟩ := h.at_
  exact (drename_calls h1 a b ha hb).mono fun e w' hE => VEnd.of h1 h.le h.few hE
theorem vcrash_calls (h : Dv base w d M room N ss) (kp : Option Addr) (kn kc : Nat) (ks : List Int) (hks : ks.length = kn) (hI : IntsAt w kp ks) (hlo : ∀ b off, kp = some ⟨b, off, none⟩ → 0 < ks.length → b < base) :
    Calls Tryz.prog 32 #[.pointer (some ⟨d, 0, none⟩), .slice kp kn kc] w fun e w' => e = .returned (.tuple #[]) ∧ Dv base w' d M room N (crashS ks 0 ss) ∧ Below base w w' := by
  obtain ⟨fs, h1, rfl⟩ := h.at_
  refine (dcrash_calls h1 h.le h.few kp kn kc ks hks hI (fun b off e h0 hm => ?_)).mono ?_
  · have := (h1.mut_lt hm).1
    have := hlo b off e h0
    omega
  · rintro e W ⟨rfl, fs', h2, hg, hs⟩
    exact ⟨rfl, ⟨Nat.le_trans h.le hg.size, h.few, fs', h2, hs⟩, DGrew.below h1 h.le hg⟩
/-- A list that the law itself has just made may be handed in too. -/
theorem vcrash_new (h : Dv base w d M room N ss) (ks : List Int) (hks : ∀ n ∈ ks, -9223372036854775808 ≤ n ∧ n ≤ 9223372036854775807) (n c : Nat) (hn : ks.length = n) :
    Calls Tryz.prog 32 #[.pointer (some ⟨d, 0, none⟩), .slice (some ⟨w.heap.size, 0, none⟩) n c] (w.alloc (.cells (ks.map (Value.int .i64)).toArray 3)) fun e w' => e = .returned (.tuple #[]) ∧ Dv base w' d M room N (crashS ks 0 ss) ∧ Below base w w' := by
  obtain ⟨fs, h1, rfl⟩ := h.at_
  have b1 : Below w.heap.size w (w.alloc (.cells (ks.map (Value.int .i64)).toArray 3)) := (Below.refl _ _).alloc (Nat.le_refl _) _
  have hle := Nat.le_trans h.le b1.size
  refine (dcrash_calls (h1.later b1) hle h.few _ n c ks hn (lit_ints w ks hks) (new_ne h1 _)).mono ?_
  rintro e W ⟨rfl, fs', h2, hg, hs⟩
  exact ⟨rfl, ⟨Nat.le_trans hle hg.size, h.few, fs', h2, hs⟩, (b1.mono h.le).trans (DGrew.below (h1.later b1) hle hg)⟩
theorem vread_yes (h : Dv base w d M room N ss) (s : ByteArray) (hs : s.size ≤ maxLen) (x : Sp) (hx : getS s.data.toList ss = some x) :
    Calls Tryz.prog 35 #[.pointer (some ⟨d, 0, none⟩), .string s] w fun e w' => ∃ sp n, e = .returned (.tuple #[.slice sp n n, .int .i64 0]) ∧ x.now.length = n ∧ n ≤ 262144 ∧ Bx w.heap.size w' sp n x.now ∧ Below w.heap.size w w' := by
  obtain ⟨fs, h1, rfl⟩ := h.at_
  rw [sps_get, Option.map_eq_some_iff] at hx
  obtain ⟨⟨F, f⟩, hx, rfl⟩ := hx
  exact dread_yes h1 s hs F f hx
theorem vread_no (h : Dv base w d M room N ss) (s : ByteArray) (hs : s.size ≤ maxLen) (hx : getS s.data.toList ss = none) :
    Calls Tryz.prog 35 #[.pointer (some ⟨d, 0, none⟩), .string s] w fun e w' => e = .returned (.tuple #[.slice none 0 0, .int .i64 8]) ∧ w' = w := by
  obtain ⟨fs, h1, rfl⟩ := h.at_
  rw [sps_get, Option.map_eq_none_iff] at hx
  exact dread_no h1 s hs hx
theorem vused_calls (h : Dv base w d M room N ss) : Calls Tryz.prog 79 #[.pointer (some ⟨d, 0, none⟩)] w fun e w' => e = .returned (.int .i64 (usedS ss : Int)) ∧ Below w.heap.size w w' := by
  obtain ⟨fs, h1, rfl⟩ := h.at_
  exact dused_calls h1
theorem vsure_yes (h : Dv base w d M room N ss) (s : ByteArray) (hs : s.size ≤ maxLen) (x : Sp) (hx : getS s.data.toList ss = some x) (hl : x.la = true) :
    Calls Tryz.prog 56 #[.pointer (some ⟨d, 0, none⟩), .string s] w fun e w' => ∃ sp n, e = .returned (.tuple #[.slice sp n n, .int .i64 0]) ∧ x.y.length = n ∧ n ≤ 262144 ∧ Bx w.heap.size w' sp n x.y ∧ Below w.heap.size w w' := by
  obtain ⟨fs, h1, rfl⟩ := h.at_
  rw [sps_get, Option.map_eq_some_iff] at hx
  obtain ⟨⟨F, f⟩, hx, rfl⟩ := hx
  exact dsure_yes h1 s hs F f hx hl
theorem vsure_no (h : Dv base w d M room N ss) (s : ByteArray) (hs : s.size ≤ maxLen) (hx : ∀ x, getS s.data.toList ss = some x → x.la = false) :
    Calls Tryz.prog 56 #[.pointer (some ⟨d, 0, none⟩), .string s] w fun e w' => e = .returned (.tuple #[.slice none 0 0, .int .i64 8]) ∧ w' = w := by
  obtain ⟨fs, h1, rfl⟩ := h.at_
  rw [sps_get] at hx
  cases hg : getS s.data.toList fs with
  | none => exact dsure_no h1 s hs hg
  | some y => exact dsure_not h1 s hs y.1 y.2 hg (hx _ (by rw [hg]; rfl))
end
/-! What a new file is. -/
theorem wrote_now (s : Sp) (z : Nat) (o : List Nat) : (wrote s z o).now = overL s.now z o := by
  unfold wrote
  split
  · rename_i h
    rw [List.eq_nil_of_length_eq_zero h, overL_nil]
  · show nowC (s.cs ++ [(false, z, o)]) s.y = _
    rw [nowC_snoc]
    simp only [ontoC, unitsC, Bool.false_eq_true, if_false, List.take_length]
    rfl
theorem over_nil (o : List Nat) : overL [] 0 o = o := by simp [overL]
theorem wrote0_now (o : List Nat) : (wrote sp0 0 o).now = o := (wrote_now _ _ _).trans (over_nil o)
theorem dWrite_new (room : Nat) (k : Nm) (hk : nameL k = true) (o : List Nat) (ss : Ds) (hg : getS k ss = none) (hl : ss.length < 16) (ho : o.length ≤ 262144) (hu : usedS ss + o.length ≤ room) : dWrite room k 0 o ss = (0, putF k (wrote sp0 0 o) ss) := by
  have e0 : sp0.now = [] := rfl
  unfold dWrite
  rw [hg, if_neg (by simp [hk])]
  simp only [Option.getD_none, e0, List.length_nil, Option.isNone_none, true_and]
  rw [if_neg (by omega), if_neg (by omega), if_neg (by omega)]
  rfl
theorem dWrite_old (room : Nat) (k : Nm) (hk : nameL k = true) (z : Nat) (o : List Nat) (ss : Ds) (s : Sp) (hg : getS k ss = some s) (hz : z ≤ s.now.length) (ho : z + o.length ≤ 262144) (hu : usedS ss + o.length ≤ room) : dWrite room k (z : Int) o ss = (0, putF k (wrote s z o) ss) := by
  unfold dWrite
  rw [hg, if_neg (by simp [hk])]
  simp only [Option.getD_some, Option.isNone_some, Bool.false_eq_true, false_and, false_or]
  rw [if_neg (by omega), if_neg (by omega), if_neg (by omega), Int.toNat_natCast]
theorem crashS_first (ks : List Int) (i : Nat) (k : Nm) (y : List Nat) (r : Ds) : crashS ks i ((k, ⟨true, y, []⟩) :: r) = (k, ⟨true, y, []⟩) :: crashS ks (i + 1) r := by
  simp [crashS, crashOne, crashL]
theorem getS_head {α : Type} (k : Nm) (v : α) (r : List (Nm × α)) : getS k ((k, v) :: r) = some v := by simp [getS]
end Go.Proofs.YtijcpmbfhfppmaaGreatDoor
