/- A deed on both disks, whatever its kind. -/
import Derived.Test.YtghdiemihceaoaaDdo0
import Derived.Test.YtghdiemihceaoaaDdo1
import Derived.Test.YtghdiemihceaoaaDdo2
import Derived.Test.YtghdiemihceaoaaDdo3
import Derived.Test.YtghdiemihceaoaaDdo4
import Derived.Test.YtghdiemihceaoaaDdo5
import Derived.Test.YtghdiemihceaoaaDdo6
import Derived.Test.YtghdiemihceaoaaDsm
namespace Go.Proofs.Ytghdiemihceaoaa
open Go.ChangeShapes Go.WideShapes Go.ChangeAt Go.RowKit Go.Maps
section
variable {base d M R room N : Nat} {B : List Nat} {w w' : World} {ss tt : Ds}
theorem do_calls (h : Two base B w d M R room N ss ss) (hN : N + 1 ≤ 300) (e : De) (hh : DeH) (hx : DeLow base w e hh) (hs : e.short = true) :
    Calls Try.prog 15 #[.pointer (some ⟨d, 0, none⟩), .pointer (some ⟨R, 0, none⟩), deVal e hh] w (DoEnd base B d M R room (N + 1) w (dDo room e ss)) := by
  have hb : e.bs.length ≤ 4000 := by
    unfold De.short at hs
    simp at hs
    exact hs.1
  obtain ⟨kd, nm, to, z, bs, ks⟩ := e
  by_cases h0 : kd = 0
  · subst h0; exact do_0 h hN nm to z bs ks hh hx hb
  by_cases h1 : kd = 1
  · subst h1; exact do_1 h hN nm to z bs ks hh hx hb
  by_cases h2 : kd = 2
  · subst h2; exact do_2 h hN nm to z bs ks hh hx hb
  by_cases h3 : kd = 3
  · subst h3; exact do_3 h hN nm to z bs ks hh hx hb
  by_cases h4 : kd = 4
  · subst h4; exact do_4 h hN nm to z bs ks hh hx hb
  by_cases h5 : kd = 5
  · subst h5; exact do_5 h hN nm to z bs ks hh hx hb
  exact do_6 h hN kd (fun i hi hj => by omega) nm to z bs ks hh hx hb
theorem lnew_calls (w : World) (z : Int) : Calls Try.prog 12 #[.int .i64 z] w fun e w' => ∃ d M, e = .returned (.pointer (some ⟨d, 0, none⟩)) ∧ DiskAt w.heap.size w' d M z.toNat 0 [] ∧ Below w.heap.size w w' := by
  refine (dnew_calls (base := w.heap.size) w (Nat.le_refl _) z).mono ?_
  rintro e W ⟨rfl, h, b⟩
  exact ⟨_, _, rfl, h, b⟩
theorem mnew_calls (w : World) (hb : base ≤ w.heap.size) (z : Int) (d M : Nat) (h : DiskAt base w d M room 0 []) (hz : z.toNat = room) : Calls Try.prog 13 #[.int .i64 z] w fun e w' => ∃ R, e = .returned (.pointer (some ⟨R, 0, none⟩)) ∧ Two base [] w' d M R room 0 [] [] ∧ Below w.heap.size w w' := by
  subst hz
  refine (rnew_calls (base := 0) w (Nat.zero_le _) z).mono ?_
  rintro e W ⟨rfl, h2, b⟩
  refine ⟨_, rfl, ⟨[], none, 0, [], ⟨Nat.le_trans hb b.size, by omega, h.later b, h2, hb, by simp, ?_, ?_, by simp⟩, rfl, rfl⟩, b⟩
  · rintro g (rfl | hg) hm
    · have := (h.mut_lt hm).2; omega
    · rcases hg with hg | ⟨x, hx, _⟩
      · cases hg
      · simp at hx
  · rintro ⟨x, hx, _⟩
    simp at hx
def readE (k : Nm) (ss : Ds) : Int := if (getS k ss).isSome = true then 0 else 8
theorem lreadE_calls (h : Two base B w d M R room N ss tt) (s : ByteArray) (hs : s.size ≤ maxLen) : Calls Try.prog 17 #[.pointer (some ⟨d, 0, none⟩), .string s] w fun e w' => ∃ sp n c, e = .returned (.tuple #[.slice sp n c, .int .i64 (readE s.data.toList ss)]) ∧ Below w.heap.size w w' := by
  obtain ⟨fs, sp, c, rs, h, rfl, rfl⟩ := h
  cases hg : getS s.data.toList fs with
  | none =>
    rw [show readE s.data.toList (sps fs) = 8 by simp [readE, sps_get, hg]]
    refine (dread_no h.disk s hs hg).mono ?_
    rintro e w' ⟨rfl, rfl⟩
    exact ⟨_, _, _, rfl, Below.refl _ _⟩
  | some x =>
    rw [show readE s.data.toList (sps fs) = 0 by simp [readE, sps_get, hg]]
    refine (dread_yes h.disk s hs x.1 x.2 hg).mono ?_
    rintro e w' ⟨sp', n, rfl, _, _, _, hb⟩
    exact ⟨_, _, _, rfl, hb⟩
theorem mreadE_calls (h : Two base B w d M R room N ss tt) (s : ByteArray) : Calls Try.prog 18 #[.pointer (some ⟨R, 0, none⟩), .string s] w fun e w' => ∃ sp n c, e = .returned (.tuple #[.slice sp n c, .int .i64 (readE s.data.toList tt)]) ∧ Below w.heap.size w w' := by
  obtain ⟨fs, sp, c, rs, h, rfl, rfl⟩ := h
  cases hg : getS s.data.toList (rss rs) with
  | none =>
    rw [show readE s.data.toList (rss rs) = 8 by simp [readE, hg]]
    refine (rread_no h.ref s hg).mono ?_
    rintro e w' ⟨rfl, rfl⟩
    exact ⟨_, _, _, rfl, Below.refl _ _⟩
  | some x =>
    rw [show readE s.data.toList (rss rs) = 0 by simp [readE, hg]]
    refine (rread_yes h.ref s x hg).mono ?_
    rintro e w' ⟨sp', n, c', rfl, _, _, hb⟩
    exact ⟨_, _, _, rfl, hb⟩
end
end Go.Proofs.Ytghdiemihceaoaa
