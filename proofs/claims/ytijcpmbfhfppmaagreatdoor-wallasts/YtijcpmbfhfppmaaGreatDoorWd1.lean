/- Disk: contracts over what a disk is by the document, with blocks that lie aside. -/
import Derived.Test.YtijcpmbfhfppmaaGreatDoorDko
namespace Go.Proofs.YtijcpmbfhfppmaaGreatDoor
open Go.ChangeShapes Go.WideShapes Go.ChangeAt Go.RowKit Go.Maps
set_option linter.unusedVariables false

/-- A disk in memory, from a block on; the blocks of Av lie aside. -/
structure DAt (Av : Nat → Prop) (base : Nat) (w : World) (d M room N : Nat) (ss : Ds) : Prop where
  le : base ≤ w.heap.size
  few : N ≤ 1000000
  at_ : ∃ fs, DiskAt base w d M room N fs ∧ sps fs = ss ∧ ∀ g, Av g → g < w.heap.size ∧ ¬ DMut d M fs g ∧ ¬ DRed fs g
section
variable {Av Bv : Nat → Prop} {base d M room N : Nat} {w w' : World} {ss : Ds}
theorem DAt.av (h : DAt Av base w d M room N ss) (hb : ∀ g, Bv g → Av g) : DAt Bv base w d M room N ss := by
  obtain ⟨fs, h1, h2, h3⟩ := h.at_
  exact ⟨h.le, h.few, fs, h1, h2, fun g hg => h3 g (hb g hg)⟩
theorem DAt.later (h : DAt Av base w d M room N ss) (hb : Below w.heap.size w w') : DAt Av base w' d M room N ss := by
  obtain ⟨fs, h1, h2, h3⟩ := h.at_
  exact ⟨Nat.le_trans h.le hb.size, h.few, fs, h1.later hb, h2, fun g hg => ⟨Nat.lt_of_lt_of_le (h3 g hg).1 hb.size, (h3 g hg).2⟩⟩
theorem DAt.drew (h : DAt Av base w d M room N ss) : DAt Av base w.drew d M room N ss := h.later ((Below.refl _ _).drew)
theorem DAt.mono {N' : Nat} (h : DAt Av base w d M room N ss) (hN : N ≤ N') (hf : N' ≤ 1000000) : DAt Av base w d M room N' ss := by
  obtain ⟨fs, h1, h2, h3⟩ := h.at_
  exact ⟨h.le, hf, fs, h1.mono hN, h2, h3⟩
/-- Blocks that came later lie aside too. -/
theorem DAt.more (h : DAt Av base w d M room N ss) (hb : Below w.heap.size w w') : DAt (fun g => Av g ∨ (w.heap.size ≤ g ∧ g < w'.heap.size)) base w' d M room N ss := by
  obtain ⟨fs, h1, h2, h3⟩ := h.at_
  refine ⟨Nat.le_trans h.le hb.size, h.few, fs, h1.later hb, h2, fun g hg => ?_⟩
  rcases hg with hg | ⟨g1, g2⟩
  · exact ⟨Nat.lt_of_lt_of_le (h3 g hg).1 hb.size, (h3 g hg).2⟩
  · refine ⟨g2, fun hm => ?_, fun hm => ?_⟩
    · have := (h1.mut_lt hm).2; omega
    · have := (h1.red_lt hm).2; omega
/-- What is done to blocks that lie aside leaves a disk as it was. -/
theorem DAt.aside (h : DAt Av base w d M room N ss) (hs : ∀ g, g < w.heap.size → ¬ Av g → w'.heap[g]? = w.heap[g]?) (hz : w.heap.size ≤ w'.heap.size) : DAt Av base w' d M room N ss := by
  obtain ⟨fs, h1, h2, h3⟩ := h.at_
  refine ⟨Nat.le_trans h.le hz, h.few, fs, h1.same (fun g hg hm => hs g hg (fun ha => ?_)), h2, fun g hg => ⟨Nat.lt_of_lt_of_le (h3 g hg).1 hz, (h3 g hg).2⟩⟩
  rcases hm with hm | hm
  · exact (h3 g ha).2.1 hm
  · exact (h3 g ha).2.2 hm
theorem DAt.lt (h : DAt Av base w d M room N ss) {g : Nat} (hg : Av g) : g < w.heap.size := by
  obtain ⟨fs, h1, h2, h3⟩ := h.at_
  exact (h3 g hg).1
theorem DAt.rise (h : DAt Av base w d M room N ss) : Rises ss := by
  obtain ⟨fs, h1, rfl, _⟩ := h.at_
  exact h1.riseS
theorem DAt.len (h : DAt Av base w d M room N ss) : ss.length ≤ 16 := by
  obtain ⟨fs, h1, rfl, _⟩ := h.at_
  rw [List.length_map]
  exact h1.few
theorem DAt.nmlen (h : DAt Av base w d M room N ss) : ∀ x ∈ ss, x.1.length ≤ 64 := by
  obtain ⟨fs, h1, rfl, _⟩ := h.at_
  intro x hx
  obtain ⟨y, hy, rfl⟩ := List.mem_map.1 hx
  exact h1.names y hy
/-- What lies aside stays, and what lay below. -/
structure Asd (Av : Nat → Prop) (base : Nat) (w w' : World) : Prop where
  av : ∀ g, Av g → w'.heap[g]? = w.heap[g]?
  bel : Below base w w'
theorem Asd.refl (Av : Nat → Prop) (base : Nat) (w : World) : Asd Av base w w := ⟨fun _ _ => rfl, Below.refl _ _⟩
theorem Asd.trans {w2 : World} (h : Asd Av base w w') (k : Asd Av base w' w2) : Asd Av base w w2 := ⟨fun g hg => (k.av g hg).trans (h.av g hg), h.bel.trans k.bel⟩
theorem Asd.of (hd : ∀ g, Av g → g < w.heap.size) (hle : base ≤ w.heap.size) (hb : Below w.heap.size w w') : Asd Av base w w' := ⟨fun g hg => hb.block g (hd g hg), hb.mono hle⟩
theorem Asd.sub (h : Asd Av base w w') (hs : ∀ g, Bv g → Av g) : Asd Bv base w w' := ⟨fun g hg => h.av g (hs g hg), h.bel⟩
/-- How a call ends. -/
def AEnd (Av : Nat → Prop) (base d M room N : Nat) (w : World) (r : Nat × Ds) (e : Ending) (w' : World) : Prop := e = .returned (.int .i64 (r.1 : Int)) ∧ DAt Av base w' d M room N r.2 ∧ Asd Av base w w'
theorem AEnd.of {r : Nat × Ds} {e : Ending} {fs : List Fe} (h : DiskAt base w d M room N fs) (hb : base ≤ w.heap.size) (hav : ∀ g, Av g → g < w.heap.size ∧ ¬ DMut d M fs g ∧ ¬ DRed fs g) {N' : Nat} (hN : N' ≤ 1000000) (hE : DEnd base d M room N' w fs r e w') : AEnd Av base d M room N' w r e w' := by
  obtain ⟨he, fs', h1, hg, hs⟩ := hE
  refine ⟨he, ⟨Nat.le_trans hb hg.size, hN, fs', h1, hs, fun g ha => ?_⟩, fun g ha => hg.block g (hav g ha).1 (hav g ha).2.1, DGrew.below h hb hg⟩
  obtain ⟨a1, a2, a3⟩ := hav g ha
  refine ⟨Nat.lt_of_lt_of_le a1 hg.size, fun hm => ?_, fun hm => ?_⟩
  · rcases hg.muts g hm with q | q
    · exact a2 q
    · omega
  · rcases hg.reds g hm with q | q
    · exact a3 q
    · omega
theorem anew_calls (w : World) (z : Int) : Calls Tryz.prog 24 #[.int .i64 z] w fun e w' => ∃ d M, e = .returned (.pointer (some ⟨d, 0, none⟩)) ∧ DAt (fun _ => False) w.heap.size w' d M z.toNat 0 [] ∧ Below w.heap.size w w' := by
  refine (dnew_calls (base := w.heap.size) w (Nat.le_refl _) z).mono ?_
  rintro e W ⟨rfl, h, b⟩
  exact ⟨_, _, rfl, ⟨b.size, by omega, [], h, rfl, fun g hg => hg.elim⟩, b⟩
theorem awrite_calls (h : DAt Av base w d M room N ss) (hN : N + 1 ≤ 1000000) (s : ByteArray) (hs : s.size ≤ maxLen) (z : Int) (hz64 : z ≤ 9223372036854775807) (xp : Option Addr) (xn xc : Nat) (o : List Nat) (ho : o.length = xn) (hxc : xn ≤ xc) (hB : BytesAt w xp o) (hx0 : xp = none → xc = 0) (hlo : ∀ b off, xp = some ⟨b, off, none⟩ → 0 < xn → b < base ∨ Av b) (hxl : xn ≤ 140737488355328) :
    Calls Tryz.prog 36 #[.pointer (some ⟨d, 0, none⟩), .string s, .int .i64 z, .slice xp xn xc] w (AEnd Av base d M room (N + 1) w (dWrite room s.data.toList z o ss)) := by
  obtain ⟨fs, h1, rfl, h3⟩ := h.at_
  refine (dwrite_calls h1 h.le h.few s hs z hz64 xp xn xc o ho hxc hB hx0 (fun b off e h0 hm => ?_) hxl).mono fun e w' hE => AEnd.of h1 h.le h3 hN hE
  have := (h1.mut_lt hm).1
  rcases hlo b off e h0 with q | q
  · omega
  · exact (h3 b q).2.1 hm
theorem async_calls (h : DAt Av base w d M room N ss) (s : ByteArray) (hs : s.size ≤ maxLen) :
    Calls Tryz.prog 37 #[.pointer (some ⟨d, 0, none⟩), .string s] w (AEnd Av base d M room N w (dSync s.data.toList ss)) := by
  obtain ⟨fs, h1, rfl, h3⟩ := h.at_
  exact (dsync_calls h1 h.le s hs).mono fun e w' hE => AEnd.of h1 h.le h3 h.few hE
theorem acut_calls (h : DAt Av base w d M room N ss) (hN : N + 1 ≤ 1000000) (s : ByteArray) (hs : s.size ≤ maxLen) (z : Int) :
    Calls Tryz.prog 102 #[.pointer (some ⟨d, 0, none⟩), .string s, .int .i64 z] w (AEnd Av base d M room (N + 1) w (dCut s.data.toList z ss)) := by
  obtain ⟨fs, h1, rfl, h3⟩ := h.at_
  exact (dcut_calls h1 h.le h.few s hs z).mono fun e w' hE => AEnd.of h1 h.le h3 hN hE
theorem aremove_calls (h : DAt Av base w d M room N ss) (s : ByteArray) (hs : s.size ≤ maxLen) :
    Calls Tryz.prog 97 #[.pointer (some ⟨d, 0, none⟩), .string s] w (AEnd Av base d M room N w (dRemove s.data.toList ss)) := by
  obtain ⟨fs, h1, rfl, h3⟩ := h.at_
  exact (dremove_calls h1 s hs).mono fun e w' hE => AEnd.of h1 h.le h3 h.few hE
theorem arename_calls (h : DAt Av base w d M room N ss) (a b : ByteArray) (ha : a.size ≤ maxLen) (hb : b.size ≤ maxLen) :
    Calls Tryz.prog 130 #[.pointer (some ⟨d, 0, none⟩), .string a, .string b] w (AEnd Av base d M room N w (dRename a.data.toList b.data.toList ss)) := by
  obtain ⟨fs, h1, rfl, h3⟩ := h.at_
  exact (drename_calls h1 a b ha hb).mono fun e w' hE => AEnd.of h1 h.le h3 h.few hE
theorem acrash_calls (h : DAt Av base w d M room N ss) (kp : Option Addr) (kn kc : Nat) (ks : List Int) (hks : ks.length = kn) (hI : IntsAt w kp ks) (hlo : ∀ b off, kp = some ⟨b, off, none⟩ → 0 < ks.length → b < base ∨ Av b) :
    Calls Tryz.prog 32 #[.pointer (some ⟨d, 0, none⟩), .slice kp kn kc] w fun e w' => e = .returned (.tuple #[]) ∧ DAt Av base w' d M room N (crashS ks 0 ss) ∧ Asd Av base w w' := by
  obtain ⟨fs, h1, rfl, h3⟩ := h.at_
  refine (dcrash_calls h1 h.le h.few kp kn kc ks hks hI (fun b off e h0 hm => ?_)).mono ?_
  · have := (h1.mut_lt hm).1
    rcases hlo b off e h0 with q | q
    · omega
    · exact (h3 b q).2.1 hm
  · rintro e W ⟨rfl, fs', h2, hg, hs⟩
    have hE : DEnd base d M room N w fs (0, crashS ks 0 (sps fs)) (.returned (.int .i64 ((0 : Nat) : Int))) W := ⟨rfl, fs', h2, hg, hs⟩
    obtain ⟨_, q1, q2⟩ := AEnd.of h1 h.le h3 h.few hE
    exact ⟨rfl, q1, q2⟩
theorem aread_yes (h : DAt Av base w d M room N ss) (s : ByteArray) (hs : s.size ≤ maxLen) (x : Sp) (hx : getS s.data.toList ss = some x) :
    Calls Tryz.prog 35 #[.pointer (some ⟨d, 0, none⟩), .string s] w fun e w' => ∃ sp n, e = .returned (.tuple #[.slice sp n n, .int .i64 0]) ∧ x.now.length = n ∧ n ≤ 262144 ∧ Bx w.heap.size w' sp n x.now ∧ Below w.heap.size w w' := by
  obtain ⟨fs, h1, rfl, _⟩ := h.at_
  rw [sps_get, Option.map_eq_some_iff] at hx
  obtain ⟨⟨F, f⟩, hx, rfl⟩ := hx
  exact dread_yes h1 s hs F f hx
theorem aread_no (h : DAt Av base w d M room N ss) (s : ByteArray) (hs : s.size ≤ maxLen) (hx : getS s.data.toList ss = none) :
    Calls Tryz.prog 35 #[.pointer (some ⟨d, 0, none⟩), .string s] w fun e w' => e = .returned (.tuple #[.slice none 0 0, .int .i64 8]) ∧ w' = w := by
  obtain ⟨fs, h1, rfl, _⟩ := h.at_
  rw [sps_get, Option.map_eq_none_iff] at hx
  exact dread_no h1 s hs hx
theorem anames_calls (h : DAt Av base w d M room N ss) : Calls Tryz.prog 38 #[.pointer (some ⟨d, 0, none⟩)] w fun e w' => ∃ sp n c, e = .returned (.slice sp n c) ∧ ss.length = n ∧ OwnN w.heap.size w' sp c (ss.map (·.1)) ∧ Below w.heap.size w w' := by
  obtain ⟨fs, h1, rfl, _⟩ := h.at_
  refine (dnames_calls h1).mono ?_
  rintro e W ⟨sp, n, c, rfl, hn, ho, hb⟩
  refine ⟨sp, n, c, rfl, by rw [List.length_map]; exact hn, ?_, hb⟩
  rw [List.map_map]
  exact ho
end
end Go.Proofs.YtijcpmbfhfppmaaGreatDoor
