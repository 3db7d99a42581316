/- The two disks side by side: the program's and the document's. -/
import Derived.Test.YtghdiemihceaoaaReb
import Derived.Test.YtghdiemihceaoaaRea
import Derived.Test.YtghdiemihceaoaaDda
namespace Go.Proofs.Ytghdiemihceaoaa
open Go.ChangeShapes Go.WideShapes Go.ChangeAt Go.RowKit Go.Maps

/-- All below base, and some blocks above it, stay. -/
structure Keeps (base : Nat) (B : List Nat) (w w' : World) : Prop where
  os : w'.os = w.os
  tape : w'.tape = w.tape
  output : w'.output = w.output
  size : w.heap.size ≤ w'.heap.size
  block : ∀ g, g < base ∨ g ∈ B → w'.heap[g]? = w.heap[g]?
theorem Keeps.refl (base : Nat) (B : List Nat) (w : World) : Keeps base B w w := ⟨rfl, rfl, rfl, Nat.le_refl _, fun _ _ => rfl⟩
theorem Keeps.trans {base : Nat} {B : List Nat} {w w1 w2 : World} (h : Keeps base B w w1) (k : Keeps base B w1 w2) : Keeps base B w w2 := ⟨k.os.trans h.os, k.tape.trans h.tape, k.output.trans h.output, Nat.le_trans h.size k.size, fun g hg => (k.block g hg).trans (h.block g hg)⟩
theorem Keeps.sub {base : Nat} {B B' : List Nat} {w w' : World} (h : Keeps base B w w') (hs : ∀ g ∈ B', g ∈ B) : Keeps base B' w w' := ⟨h.os, h.tape, h.output, h.size, fun g hg => h.block g (hg.imp id (hs g))⟩
theorem Keeps.below {base : Nat} {B : List Nat} {w w' : World} (h : Keeps base B w w') : Below base w w' := ⟨h.os, h.tape, h.output, h.size, fun g hg => h.block g (.inl hg)⟩
/-- Both, where they lie; the blocks of B belong to neither. -/
structure TwoAt (base : Nat) (B : List Nat) (w : World) (d M R room N : Nat) (fs : List Fe) (sp : Option Addr) (c : Nat) (rs : List Rf) : Prop where
  le : base ≤ w.heap.size
  few : N ≤ 300
  disk : DiskAt base w d M room N fs
  ref : RefAt 0 w R room sp c rs
  lowR : base ≤ R
  fewR : ∀ x ∈ rs, x.2.s.cs.length ≤ 300
  apart : ∀ g, g = R ∨ footR sp rs g → ¬ DMut d M fs g
  redR : ¬ DRed fs R
  aside : ∀ g ∈ B, g < w.heap.size ∧ ¬ DMut d M fs g ∧ ¬ DRed fs g ∧ g ≠ R ∧ ¬ footR sp rs g
section
variable {base d M R room N N' : Nat} {B : List Nat} {w w' : World} {fs fs' : List Fe} {sp : Option Addr} {c : Nat} {rs rs' : List Rf}
theorem RefAt.foot_lt (h : RefAt base w R room sp c rs) {g : Nat} (hg : g = R ∨ footR sp rs g) : base ≤ g ∧ g < w.heap.size := by
  rcases hg with rfl | hg
  · exact ⟨h.low, h.ltR⟩
  · exact h.own.lt hg
theorem TwoAt.left (h : TwoAt base B w d M R room N fs sp c rs) (hd : DiskAt base w' d M room N' fs') (hg : DGrew d M w fs w' fs') (hN : N' ≤ 300) : TwoAt base B w' d M R room N' fs' sp c rs ∧ Keeps base B w w' := by
  have hm : ∀ g, g < w.heap.size → ¬ DMut d M fs g → ¬ DMut d M fs' g := fun g hl hn hm => by
    rcases hg.muts g hm with h1 | h1
    · exact hn h1
    · omega
  have hr : ∀ g, g < w.heap.size → ¬ DRed fs g → ¬ DRed fs' g := fun g hl hn hm => by
    rcases hg.reds g hm with h1 | h1
    · exact hn h1
    · omega
  refine ⟨⟨Nat.le_trans h.le hg.size, hN, hd, h.ref.same (hg.block R h.ref.ltR (h.apart R (.inl rfl))) (fun g hgf => hg.block g (h.ref.foot_lt (.inr hgf)).2 (h.apart g (.inr hgf))), h.lowR, h.fewR, fun g hgf => hm g (h.ref.foot_lt hgf).2 (h.apart g hgf), hr R h.ref.ltR h.redR, fun g hgB => ?_⟩, ⟨hg.os, hg.tape, hg.output, hg.size, fun g hgB => ?_⟩⟩
  · obtain ⟨a1, a2, a3, a4, a5⟩ := h.aside g hgB
    exact ⟨Nat.lt_of_lt_of_le a1 hg.size, hm g a1 a2, hr g a1 a3, a4, a5⟩
  · rcases hgB with h1 | h1
    · exact hg.block g (Nat.lt_of_lt_of_le h1 h.le) (fun hmm => by have := (h.disk.mut_lt hmm).1; omega)
    · obtain ⟨a1, a2, _⟩ := h.aside g h1
      exact hg.block g a1 a2
theorem sps_few (hd : DiskAt base w d M room N fs) (hN : N ≤ 300) : ∀ x ∈ sps fs, x.2.cs.length ≤ 300 := by
  intro x hx
  unfold sps at hx
  obtain ⟨y, hy, rfl⟩ := List.mem_map.1 hx
  have := (hd.ok y hy).few
  show (y.2.2.xs.map (·.1)).length ≤ 300
  rw [List.length_map]
  omega
theorem TwoAt.right (h : TwoAt base B w d M R room N fs sp c rs) (hr : RDone 0 R room w sp rs rs' w') (he : rss rs' = sps fs) : ∃ sp' c', TwoAt base B w' d M R room N fs sp' c' rs' ∧ Keeps base B w w' := by
  obtain ⟨⟨sp', c', ha, hf⟩, hg⟩ := hr
  have hne : ∀ g, g < w.heap.size → g ≠ R → w'.heap[g]? = w.heap[g]? := fun g hl hn => hg.block g hl (fun e => hn (Option.some.inj e))
  refine ⟨sp', c', ⟨Nat.le_trans h.le hg.size, h.few, h.disk.same (fun g hl hm => hne g hl ?_), ha, h.lowR, fun x hx => ?_, fun g hgf hm => ?_, h.redR, fun g hgB => ?_⟩, ⟨hg.os, hg.tape, hg.output, hg.size, fun g hgB => ?_⟩⟩
  · rintro rfl
    rcases hm with hm | hm
    · exact h.apart g (.inl rfl) hm
    · exact h.redR hm
  · have hx2 : (x.1, x.2.s) ∈ rss rs' := List.mem_map.2 ⟨x, hx, rfl⟩
    rw [he] at hx2
    exact sps_few h.disk h.few _ hx2
  · rcases hgf with rfl | hgf
    · exact h.apart g (.inl rfl) hm
    · rcases hf g hgf with h1 | h1
      · exact h.apart g (.inr h1) hm
      · have := (h.disk.mut_lt hm).2; omega
  · obtain ⟨a1, a2, a3, a4, a5⟩ := h.aside g hgB
    refine ⟨Nat.lt_of_lt_of_le a1 hg.size, a2, a3, a4, fun hgf => ?_⟩
    rcases hf g hgf with h1 | h1
    · exact a5 h1
    · omega
  · rcases hgB with h1 | h1
    · exact hne g (Nat.lt_of_lt_of_le h1 h.le) (fun e => by have := h.lowR; omega)
    · obtain ⟨a1, _, _, a4, _⟩ := h.aside g h1
      exact hne g a1 a4
theorem TwoAt.later (h : TwoAt base B w d M R room N fs sp c rs) (hb : Below w.heap.size w w') : TwoAt base B w' d M R room N fs sp c rs :=
  ⟨Nat.le_trans h.le hb.size, h.few, h.disk.later hb, h.ref.later hb, h.lowR, h.fewR, h.apart, h.redR, fun g hg => by
    obtain ⟨a1, a2⟩ := h.aside g hg
    exact ⟨Nat.lt_of_lt_of_le a1 hb.size, a2⟩⟩
/-- A new block belongs to neither. -/
theorem TwoAt.push (h : TwoAt base B w d M R room N fs sp c rs) (o : Obj) : TwoAt base (w.heap.size :: B) (w.alloc o) d M R room N fs sp c rs := by
  have hb : Below w.heap.size w (w.alloc o) := (Below.refl _ _).alloc (Nat.le_refl _) _
  have h2 := h.later hb
  refine ⟨h2.le, h2.few, h2.disk, h2.ref, h2.lowR, h2.fewR, h2.apart, h2.redR, fun g hg => ?_⟩
  rcases List.mem_cons.1 hg with rfl | hg
  · refine ⟨by simp, fun hm => ?_, fun hm => ?_, fun e => ?_, fun hm => ?_⟩
    · have := (h.disk.mut_lt hm).2; omega
    · have := (h.disk.red_lt hm).2; omega
    · have := h.ref.ltR; omega
    · have := (h.ref.foot_lt (.inr hm)).2; omega
  · exact h2.aside g hg
theorem TwoAt.sub {B' : List Nat} (h : TwoAt base B w d M R room N fs sp c rs) (hs : ∀ g ∈ B', g ∈ B) : TwoAt base B' w d M R room N fs sp c rs := ⟨h.le, h.few, h.disk, h.ref, h.lowR, h.fewR, h.apart, h.redR, fun g hg => h.aside g (hs g hg)⟩
/-- What changes of the blocks aside changes neither. -/
theorem TwoAt.byB {g : Nat} (h : TwoAt base B w d M R room N fs sp c rs) (hg : g ∈ B) (hb : w.grownBy w' (some g)) : TwoAt base B w' d M R room N fs sp c rs := by
  obtain ⟨a1, a2, a3, a4, a5⟩ := h.aside g hg
  have hne : ∀ i, i < w.heap.size → i ≠ g → w'.heap[i]? = w.heap[i]? := fun i hl hn => hb.block i hl (fun e => hn (Option.some.inj e))
  refine ⟨Nat.le_trans h.le hb.size, h.few, h.disk.same (fun i hl hm => hne i hl ?_), h.ref.same (hne R h.ref.ltR (fun e => a4 e.symm)) (fun i hi => hne i (h.ref.foot_lt (.inr hi)).2 (fun e => a5 (e ▸ hi))), h.lowR, h.fewR, h.apart, h.redR, fun i hi => ?_⟩
  · rintro rfl
    exact hm.elim a2 a3
  · obtain ⟨b1, b2⟩ := h.aside i hi
    exact ⟨Nat.lt_of_lt_of_le b1 hb.size, b2⟩
end
/-- Both, by the document: the program's files, the document's. -/
def Two (base : Nat) (B : List Nat) (w : World) (d M R room N : Nat) (ss tt : Ds) : Prop := ∃ fs sp c rs, TwoAt base B w d M R room N fs sp c rs ∧ sps fs = ss ∧ rss rs = tt
section
variable {base d M R room N : Nat} {B : List Nat} {w w' : World} {ss tt : Ds}
theorem Two.later (h : Two base B w d M R room N ss tt) (hb : Below w.heap.size w w') : Two base B w' d M R room N ss tt := by
  obtain ⟨fs, sp, c, rs, h, e⟩ := h
  exact ⟨fs, sp, c, rs, h.later hb, e⟩
theorem Two.push (h : Two base B w d M R room N ss tt) (o : Obj) : Two base (w.heap.size :: B) (w.alloc o) d M R room N ss tt := by
  obtain ⟨fs, sp, c, rs, h, e⟩ := h
  exact ⟨fs, sp, c, rs, h.push o, e⟩
theorem Two.sub {B' : List Nat} (h : Two base B w d M R room N ss tt) (hs : ∀ g ∈ B', g ∈ B) : Two base B' w d M R room N ss tt := by
  obtain ⟨fs, sp, c, rs, h, e⟩ := h
  exact ⟨fs, sp, c, rs, h.sub hs, e⟩
theorem Two.byB {g : Nat} (h : Two base B w d M R room N ss tt) (hg : g ∈ B) (hb : w.grownBy w' (some g)) : Two base B w' d M R room N ss tt := by
  obtain ⟨fs, sp, c, rs, h, e⟩ := h
  exact ⟨fs, sp, c, rs, h.byB hg hb, e⟩
theorem Two.mono {N' : Nat} (h : Two base B w d M R room N ss tt) (hN : N ≤ N') (hN' : N' ≤ 300) : Two base B w d M R room N' ss tt := by
  obtain ⟨fs, sp, c, rs, h, e⟩ := h
  exact ⟨fs, sp, c, rs, ⟨h.le, hN', h.disk.mono hN, h.ref, h.lowR, h.fewR, h.apart, h.redR, h.aside⟩, e⟩
theorem Two.le (h : Two base B w d M R room N ss tt) : base ≤ w.heap.size := by
  obtain ⟨fs, sp, c, rs, h, e⟩ := h
  exact h.le
/-- How a call on the program's disk ends. -/
def LEnd (base : Nat) (B : List Nat) (d M R room N : Nat) (w : World) (tt : Ds) (r : Nat × Ds) (e : Ending) (w' : World) : Prop := e = .returned (.int .i64 (r.1 : Int)) ∧ Two base B w' d M R room N r.2 tt ∧ Keeps base B w w'
theorem LEnd.of {r : Nat × Ds} {N' : Nat} {fs : List Fe} {sp : Option Addr} {c : Nat} {rs : List Rf} {e : Ending} (h : TwoAt base B w d M R room N fs sp c rs) (hN : N' ≤ 300) (hd : DEnd base d M room N' w fs r e w') : LEnd base B d M R room N' w (rss rs) r e w' := by
  obtain ⟨he, fs', h1, h2, h3⟩ := hd
  obtain ⟨a, b⟩ := h.left h1 h2 hN
  exact ⟨he, ⟨fs', sp, c, rs, a, h3, rfl⟩, b⟩
/-- How a call on the document's disk ends that does what the program's did. -/
def MEnd (base : Nat) (B : List Nat) (d M R room N : Nat) (w : World) (r : Nat × Ds) (e : Ending) (w' : World) : Prop := e = .returned (.int .i64 (r.1 : Int)) ∧ Two base B w' d M R room N r.2 r.2 ∧ Keeps base B w w'
theorem MEnd.of {r : Nat × Ds} {fs : List Fe} {sp : Option Addr} {c : Nat} {rs : List Rf} {e : Ending} (h : TwoAt base B w d M R room N fs sp c rs) (hr : REnd 0 R room w sp rs r e w') (he : sps fs = r.2) : MEnd base B d M R room N w r e w' := by
  obtain ⟨h1, rs', h2, h3⟩ := hr
  obtain ⟨sp', c', a, b⟩ := h.right h3 (h2.trans he.symm)
  exact ⟨h1, ⟨fs, sp', c', rs', a, he, h2⟩, b⟩
theorem lsync_calls (h : Two base B w d M R room N ss tt) (s : ByteArray) (hs : s.size ≤ maxLen) : Calls Try.prog 23 #[.pointer (some ⟨d, 0, none⟩), .string s] w (LEnd base B d M R room N w tt (dSync s.data.toList ss)) := by
  obtain ⟨fs, sp, c, rs, h, rfl, rfl⟩ := h
  exact (dsync_calls h.disk h.le s hs).mono (fun e w' he => LEnd.of h h.few he)
theorem lremove_calls (h : Two base B w d M R room N ss tt) (s : ByteArray) (hs : s.size ≤ maxLen) : Calls Try.prog 21 #[.pointer (some ⟨d, 0, none⟩), .string s] w (LEnd base B d M R room N w tt (dRemove s.data.toList ss)) := by
  obtain ⟨fs, sp, c, rs, h, rfl, rfl⟩ := h
  exact (dremove_calls h.disk s hs).mono (fun e w' he => LEnd.of h h.few he)
theorem lrename_calls (h : Two base B w d M R room N ss tt) (a b : ByteArray) (ha : a.size ≤ maxLen) (hb : b.size ≤ maxLen) : Calls Try.prog 25 #[.pointer (some ⟨d, 0, none⟩), .string a, .string b] w (LEnd base B d M R room N w tt (dRename a.data.toList b.data.toList ss)) := by
  obtain ⟨fs, sp, c, rs, h, rfl, rfl⟩ := h
  exact (drename_calls h.disk a b ha hb).mono (fun e w' he => LEnd.of h h.few he)
theorem lcut_calls (h : Two base B w d M R room N ss tt) (hN : N + 1 ≤ 300) (s : ByteArray) (hs : s.size ≤ maxLen) (z : Int) : Calls Try.prog 24 #[.pointer (some ⟨d, 0, none⟩), .string s, .int .i64 z] w (LEnd base B d M R room (N + 1) w tt (dCut s.data.toList z ss)) := by
  obtain ⟨fs, sp, c, rs, h, rfl, rfl⟩ := h
  exact (dcut_calls h.disk h.le (by omega) s hs z).mono (fun e w' he => LEnd.of h hN he)
theorem lwrite_calls (h : Two base B w d M R room N ss tt) (hN : N + 1 ≤ 300) (s : ByteArray) (hs : s.size ≤ maxLen) (z : Int) (hz : z ≤ 9223372036854775807) (xp : Option Addr) (xn xc : Nat) (o : List Nat) (ho : o.length = xn) (hxc : xn ≤ xc) (hB : BytesAt w xp o) (hx0 : xp = none → xc = 0) (hne : ∀ b off, xp = some ⟨b, off, none⟩ → 0 < xn → b < base ∨ b ∈ B) (hxl : xn ≤ 140737488355328) :
    Calls Try.prog 22 #[.pointer (some ⟨d, 0, none⟩), .string s, .int .i64 z, .slice xp xn xc] w (LEnd base B d M R room (N + 1) w tt (dWrite room s.data.toList z o ss)) := by
  obtain ⟨fs, sp, c, rs, h, rfl, rfl⟩ := h
  exact (dwrite_calls h.disk h.le (by omega) s hs z hz xp xn xc o ho hxc hB hx0 (fun b off e h0 hm => by
    rcases hne b off e h0 with h1 | h1
    · have := (h.disk.mut_lt hm).1; omega
    · exact (h.aside b h1).2.1 hm) hxl).mono (fun e w' he => LEnd.of h hN he)
theorem lcrash_calls (h : Two base B w d M R room N ss tt) (kp : Option Addr) (kn kc : Nat) (ks : List Int) (hks : ks.length = kn) (hI : IntsAt w kp ks) (hlo : ∀ b off, kp = some ⟨b, off, none⟩ → 0 < ks.length → b < base) :
    Calls Try.prog 26 #[.pointer (some ⟨d, 0, none⟩), .slice kp kn kc] w fun e w' => e = .returned (.tuple #[]) ∧ Two base B w' d M R room N (crashS ks 0 ss) tt ∧ Keeps base B w w' := by
  obtain ⟨fs, sp, c, rs, h, rfl, rfl⟩ := h
  refine (dcrash_calls h.disk h.le (by have := h.few; omega) kp kn kc ks hks hI (fun b off e h0 hm => by
    have := hlo b off e h0
    have := (h.disk.mut_lt hm).1
    omega)).mono ?_
  rintro e w' ⟨he, fs', h1, h2, h3⟩
  obtain ⟨a, b⟩ := h.left h1 h2 h.few
  exact ⟨he, ⟨fs', sp, c, rs, a, h3, rfl⟩, b⟩
theorem msync_calls (s : ByteArray) (h : Two base B w d M R room N (dSync s.data.toList tt).2 tt) : Calls Try.prog 37 #[.pointer (some ⟨R, 0, none⟩), .string s] w (MEnd base B d M R room N w (dSync s.data.toList tt)) := by
  obtain ⟨fs, sp, c, rs, h, he, rfl⟩ := h
  exact (rsync_calls h.ref (Nat.zero_le _) s).mono (fun e w' hr => MEnd.of h hr he)
theorem mremove_calls (s : ByteArray) (h : Two base B w d M R room N (dRemove s.data.toList tt).2 tt) : Calls Try.prog 39 #[.pointer (some ⟨R, 0, none⟩), .string s] w (MEnd base B d M R room N w (dRemove s.data.toList tt)) := by
  obtain ⟨fs, sp, c, rs, h, he, rfl⟩ := h
  exact (rremove_calls h.ref (Nat.zero_le _) s).mono (fun e w' hr => MEnd.of h hr he)
theorem mrename_calls (s b : ByteArray) (hb : b.size ≤ maxLen) (h : Two base B w d M R room N (dRename s.data.toList b.data.toList tt).2 tt) : Calls Try.prog 38 #[.pointer (some ⟨R, 0, none⟩), .string s, .string b] w (MEnd base B d M R room N w (dRename s.data.toList b.data.toList tt)) := by
  obtain ⟨fs, sp, c, rs, h, he, rfl⟩ := h
  exact (rrename_calls h.ref (Nat.zero_le _) s b hb).mono (fun e w' hr => MEnd.of h hr he)
theorem mcut_calls (s : ByteArray) (z : Int) (h : Two base B w d M R room N (dCut s.data.toList z tt).2 tt) : Calls Try.prog 36 #[.pointer (some ⟨R, 0, none⟩), .string s, .int .i64 z] w (MEnd base B d M R room N w (dCut s.data.toList z tt)) := by
  obtain ⟨fs, sp, c, rs, h, he, rfl⟩ := h
  exact (rcut_calls h.ref (Nat.zero_le _) s z h.fewR).mono (fun e w' hr => MEnd.of h hr he)
theorem mwrite_calls (s : ByteArray) (hs : s.size ≤ maxLen) (z : Int) (hz : z ≤ 9223372036854775807) (xp : Option Addr) (xn xc : Nat) (o : List Nat) (ho : o.length = xn) (hB : BytesAt w xp o) (hxl : xn ≤ 4000) (h : Two base B w d M R room N (dWrite room s.data.toList z o tt).2 tt) :
    Calls Try.prog 35 #[.pointer (some ⟨R, 0, none⟩), .string s, .int .i64 z, .slice xp xn xc] w (MEnd base B d M R room N w (dWrite room s.data.toList z o tt)) := by
  obtain ⟨fs, sp, c, rs, h, he, rfl⟩ := h
  exact (rwrite_calls h.ref (Nat.zero_le _) s hs z hz xp xn xc o ho hB hxl h.fewR).mono (fun e w' hr => MEnd.of h hr he)
theorem mcrash_calls (kp : Option Addr) (kn kc : Nat) (ks : List Int) (hks : ks.length = kn) (hI : IntsAt w kp ks) (h : Two base B w d M R room N (crashS ks 0 tt) tt) :
    Calls Try.prog 33 #[.pointer (some ⟨R, 0, none⟩), .slice kp kn kc] w fun e w' => e = .returned (.tuple #[]) ∧ Two base B w' d M R room N (crashS ks 0 tt) (crashS ks 0 tt) ∧ Keeps base B w w' := by
  obtain ⟨fs, sp, c, rs, h, he, rfl⟩ := h
  refine (rcrash_calls h.ref (Nat.zero_le _) kp kn kc ks hks hI).mono ?_
  rintro e w' ⟨h1, rs', h2, h3⟩
  obtain ⟨sp', c', a, b⟩ := h.right h3 (h2.trans he.symm)
  exact ⟨h1, ⟨fs, sp', c', rs', a, he, h2⟩, b⟩
end
end Go.Proofs.Ytghdiemihceaoaa
