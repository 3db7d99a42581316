/- Flight: the program's net and the document's, tied, through what becomes of either. -/
import Derived.Test.YticemhnfcelpmaaRf11
import Derived.Test.YticemhnfcelpmaaRf8
import Derived.Test.YticemhnfcelpmaaFl14
import Derived.Test.YticemhnfcelpmaaFl15
namespace Go.Proofs.Yticemhnfcelpmaa
open Go.ChangeShapes Go.WideShapes Go.ChangeAt Go.RowKit Go.Maps

theorem ownsRow_blk {base : Nat} {w w' : World} {e : TypeId} {size n : Nat} {sp : Option Addr} {c : Nat} {xs : List Value} (h : w.ownsRow base e size (.slice sp n c) n xs) (hk : ∀ g, blk sp = some g → w'.heap[g]? = w.heap[g]?) : w'.ownsRow base e size (.slice sp n c) n xs := by
  refine ⟨h.1, ?_⟩
  rcases h.2 with hv | ⟨g, cap, cur, hv, hbg, hgg, r⟩
  · exact .inl hv
  · have hv' := hv
    simp only [Value.slice.injEq] at hv
    exact .inr ⟨g, cap, cur, hv', hbg, (hk g (by rw [hv.1]; rfl)).trans hgg, r⟩
theorem OwnB.byBlk {base : Nat} {w w' : World} {sp : Option Addr} {c : Nat} {l : List Nat} (h : OwnB base w sp c l) (hk : ∀ g, blk sp = some g → w'.heap[g]? = w.heap[g]?) : OwnB base w' sp c l := by
  refine ⟨⟨h.owns.1, ?_⟩, h.lt⟩
  rcases h.owns.2 with hv | ⟨g, cap, cur, hv, hbg, hgg, r⟩
  · exact .inl hv
  · have hv' := hv
    simp only [Value.slice.injEq] at hv
    exact .inr ⟨g, cap, cur, hv', hbg, (hk g (by rw [hv.1]; rfl)).trans hgg, r⟩
theorem OwnB.blk_is {base : Nat} {w : World} {sp : Option Addr} {c : Nat} {l : List Nat} (h : OwnB base w sp c l) : ∀ g, blk sp = some g → ∃ cur : Array Value, w.heap[g]? = some (.cells cur 5 (0, 0)) := by
  intro g hg
  rcases h.owns.2 with ⟨hv, _⟩ | ⟨g1, cap, cur, hv, _, hh, _⟩
  · simp only [Value.slice.injEq] at hv
    rw [hv.1] at hg
    cases hg
  · simp only [Value.slice.injEq] at hv
    rw [hv.1] at hg
    obtain rfl : g1 = g := by simpa [blk] using hg
    exact ⟨_, hh⟩
section
variable {base base' : Nat} {w w' : World} {N M n n' : Nat} {sp sp' : Option Addr} {c c' : Nat} {xs xs' : List (Pkt × Hdl)} {last : Int} {S : Int → Int → Bool} {ck : List Int} {R : Nat} {sr sr' : Option Addr} {cr cr' : Nat} {zs zs' : List SPk} {pa pa' : List Bool} {kr kr' : List Int}
theorem NetAt.blkM (h : NetAt base w N M n sp c xs last S ck) : ∃ es k, w.heap[M]? = some (.map es k) := by
  obtain ⟨D, ⟨es, clock, hb, _⟩, _⟩ := h.map
  exact ⟨_, _, hb⟩
theorem NetAt.map_blk (h : NetAt base w N M n sp c xs last S ck) (hk : w'.heap[M]? = w.heap[M]?) : ∃ D : DataW Unit, w'.ownsMap Try.prog 56 unitElem M n D ∧ ∀ f t, In64 f → In64 t → Maps.has D (lk f t) = S f t := by
  obtain ⟨D, ⟨es, clock, hb, r⟩, hS⟩ := h.map
  exact ⟨D, ⟨es, clock, hk.trans hb, r⟩, hS⟩
theorem NGrew.kept (hn : NetAt base w N M n sp c xs last S ck) (g : NGrew N M w sp w' sp') : ∀ (i : Nat) (cs : Array Value) (T : TypeId), w.heap[i]? = some (.cells cs T (0, 0)) → T ≠ 53 → T ≠ 35 → w'.heap[i]? = w.heap[i]? := by
  obtain ⟨es, k, hM⟩ := hn.blkM
  intro i cs T hi h1 h2
  refine g.block i (Array.getElem?_eq_some_iff.1 hi).1 (fun e => ?_) (fun e => ?_) (fun e => ?_)
  · subst e
    rw [hn.blk] at hi
    simp only [Option.some.injEq, Obj.cells.injEq] at hi
    exact h1 hi.2.1.symm
  · subst e
    rw [hM] at hi
    simp at hi
  · exact hn.own.ne_block hi h2 e.symm
theorem RGrew.kept (h : RefAt base w R sr cr zs pa kr) (g : RGrew R w sr w' sr') : ∀ (i : Nat) (cs : Array Value) (T : TypeId), w.heap[i]? = some (.cells cs T (0, 0)) → T ≠ 70 → T ≠ 77 → w'.heap[i]? = w.heap[i]? := by
  intro i cs T hi h1 h2
  refine g.block i (Array.getElem?_eq_some_iff.1 hi).1 (fun e => ?_) (fun e => ?_)
  · subst e
    rw [h.blk] at hi
    simp only [Option.some.injEq, Obj.cells.injEq] at hi
    exact h1 hi.2.1.symm
  · exact h.own.ne_block hi h2 e.symm
/-- What becomes of the program's net leaves the document's. -/
theorem RefAt.ngrew (h : RefAt base' w R sr cr zs pa kr) (hn : NetAt base w N M n sp c xs last S ck) (g : NGrew N M w sp w' sp') : RefAt base' w' R sr cr zs pa kr := by
  have key := g.kept hn
  refine ⟨(key R _ _ h.blk (by decide) (by decide)).trans h.blk, ⟨ownsRow_blk h.own.row (fun g1 hg1 => ?_), fun z hz => (h.own.dat z hz).byBlk (fun g1 hg1 => ?_)⟩, h.low, h.hundred, h.ten⟩
  · obtain ⟨cur, hc⟩ := h.own.blk_is g1 hg1
    exact key g1 _ _ hc (by decide) (by decide)
  · obtain ⟨cur, hc⟩ := (h.own.dat z hz).blk_is g1 hg1
    exact key g1 _ _ hc (by decide) (by decide)
/-- What becomes of the document's leaves the program's. -/
theorem NetAt.rgrew (hn : NetAt base w N M n sp c xs last S ck) (h : RefAt base' w R sr cr zs pa kr) (g : RGrew R w sr w' sr') : NetAt base w' N M n sp c xs last S ck := by
  obtain ⟨es, k, hM⟩ := hn.blkM
  have key := g.kept h
  have keyM : w'.heap[M]? = w.heap[M]? := by
    refine g.block M (Array.getElem?_eq_some_iff.1 hM).1 (fun e => ?_) (fun e => ?_)
    · subst e
      rw [h.blk] at hM
      simp at hM
    · obtain ⟨cur, hc⟩ := h.own.blk_is M e.symm
      rw [hc] at hM
      simp at hM
  have ho : OwnP base w.heap.size w' sp c xs := ⟨ownsRow_blk hn.own.row (fun g1 hg1 => by
      obtain ⟨cur, hc⟩ := hn.own.blk_is g1 hg1
      exact key g1 _ _ hc (by decide) (by decide)), ⟨fun x hx => ⟨(hn.own.dat.own x hx).1.byBlk (fun g1 hg1 => by
      obtain ⟨cur, hc⟩ := (hn.own.dat.own x hx).1.blk_is g1 hg1
      exact key g1 _ _ hc (by decide) (by decide)), (hn.own.dat.own x hx).2⟩, hn.own.dat.apart⟩⟩
  exact ⟨(key N _ _ hn.blk (by decide) (by decide)).trans hn.blk, ho.tight, hn.map_blk keyM, hn.lowN, hn.lowM, hn.nine⟩
/-- The kinds of blocks that a net's own deeds change. -/
abbrev NX : List TypeId := [53, 35]
abbrev RX : List TypeId := [70, 77]
/-- What steps leave: all below 'base', and all blocks of other kinds. -/
structure Stp (base : Nat) (X : List TypeId) (Av : Nat → Prop) (w w' : World) : Prop where
  bel : Below base w w'
  soft : ∀ (i : Nat) (cs : Array Value) (T : TypeId), w.heap[i]? = some (.cells cs T (0, 0)) → T ∉ X → w'.heap[i]? = w.heap[i]?
  av : ∀ g, Av g → w'.heap[g]? = w.heap[g]?
theorem Stp.refl (base : Nat) (X : List TypeId) (Av : Nat → Prop) (w : World) : Stp base X Av w w := ⟨Below.refl _ _, fun _ _ _ _ _ => rfl, fun _ _ => rfl⟩
theorem Stp.ofBelow {X : List TypeId} {Av : Nat → Prop} (h : Below w.heap.size w w') (hb : base ≤ w.heap.size) (hA : ∀ g, Av g → g < w.heap.size) : Stp base X Av w w' := ⟨h.mono hb, fun i _ _ hi _ => h.block i (Array.getElem?_eq_some_iff.1 hi).1, fun g hg => h.block g (hA g hg)⟩
theorem Stp.ofN {Av : Nat → Prop} (hn : NetAt base w N M n sp c xs last S ck) (g : NGrew N M w sp w' sp') (hA : ∀ i, Av i → i < w.heap.size ∧ i ≠ N ∧ i ≠ M ∧ blk sp ≠ some i) : Stp base NX Av w w' := ⟨hn.below g, fun i cs T hi hT => g.kept hn i cs T hi (fun e => hT (by rw [e]; simp)) (fun e => hT (by rw [e]; simp)), fun i hi => g.block i (hA i hi).1 (hA i hi).2.1 (hA i hi).2.2.1 (fun e => (hA i hi).2.2.2 e.symm)⟩
theorem Stp.ofR {Av : Nat → Prop} (h : RefAt base w R sr cr zs pa kr) (g : RGrew R w sr w' sr') (hA : ∀ i, Av i → i < w.heap.size ∧ i ≠ R ∧ blk sr ≠ some i) : Stp base RX Av w w' := ⟨h.below g, fun i cs T hi hT => g.kept h i cs T hi (fun e => hT (by rw [e]; simp)) (fun e => hT (by rw [e]; simp)), fun i hi => g.block i (hA i hi).1 (hA i hi).2.1 (fun e => (hA i hi).2.2 e.symm)⟩
theorem Stp.box {X : List TypeId} {Av : Nat → Prop} {D : Nat} {cs : Array Value} {T : TypeId} (s : Stp base X Av w w') (h : w.heap[D]? = some (.cells cs T (0, 0))) (hT : T ∉ X) : w'.heap[D]? = some (.cells cs T (0, 0)) := (s.soft D cs T h hT).trans h
theorem OwnB.steps {b0 : Nat} {X : List TypeId} {Av : Nat → Prop} {d : Option Addr} {dc : Nat} {l : List Nat} (h : OwnB b0 w d dc l) (s : Stp base X Av w w') (hX : 5 ∉ X) : OwnB b0 w' d dc l := h.byBlk fun g hg => by
  obtain ⟨cur, hc⟩ := h.blk_is g hg
  exact s.soft g cur _ hc hX
/-- What both nets are, by the document: packets under way, how many were ever sent, links that are parted, clocks; how many deeds were done. -/
structure FS where
  pk : List Pkt
  tot : Nat
  S : Int → Int → Bool
  ck : List Int
  age : Nat
structure FOk (s : FS) : Prop where
  rise : s.pk.Pairwise fun p q => p.1 < q.1
  ids : ∀ p ∈ s.pk, 1 ≤ p.1 ∧ p.1 ≤ (s.tot : Int)
  len : ∀ p ∈ s.pk, p.2.2.2.length ≤ 65536
  few : s.pk.length ≤ s.tot
  full : s.pk.length ≤ 128
  old : s.tot ≤ s.age
  nine : s.ck.length = 9
  ckb : ∀ j, 0 ≤ s.ck.getD j 0 ∧ s.ck.getD j 0 ≤ (s.age : Int)
  no : ∀ f t, isL f t = false → s.S f t = false
/-- A net of the program's and one of the document's in memory, apart: what they are. What Av tells lies in neither. -/
structure TwoAt (base : Nat) (w : World) (N M R : Nat) (s r : FS) (Av : Nat → Prop) (n : Nat) (sp : Option Addr) (c : Nat) (xs : List (Pkt × Hdl)) (sr : Option Addr) (cr : Nat) (zs : List SPk) (pa : List Bool) (kr : List Int) : Prop where
  net : NetAt base w N M n sp c xs (s.tot : Int) s.S s.ck
  npk : xs.map (·.1) = s.pk
  nn : n ≤ s.age
  ref : RefAt base w R sr cr zs pa kr
  rpk : (alive zs).map (·.1) = r.pk
  ids : Ids zs
  tot : zs.length = r.tot
  par : ∀ f t, isL f t = true → paS pa f t = r.S f t
  clk : ∀ j, j < 9 → kr.getD (j + 1) 0 = r.ck.getD j 0
  len : ∀ z ∈ zs, z.1.1.2.2.2.length ≤ 65536
  apart : ∀ x ∈ xs, ∀ z ∈ zs, ∀ g, blk x.2.1 = some g → blk z.1.2.1 ≠ some g
  avN : ∀ x ∈ xs, ∀ g, blk x.2.1 = some g → ¬ Av g
  avR : ∀ z ∈ zs, ∀ g, blk z.1.2.1 = some g → ¬ Av g
  avL : ∀ g, Av g → g < w.heap.size
  avP : ∀ g, blk sp = some g → ¬ Av g
  avQ : ∀ g, blk sr = some g → ¬ Av g
  avH : ¬ Av N ∧ ¬ Av M ∧ ¬ Av R
  okN : FOk s
  okR : FOk r
def Two (base : Nat) (w : World) (N M R : Nat) (s r : FS) (Av : Nat → Prop) : Prop := ∃ n sp c xs sr cr zs pa kr, TwoAt base w N M R s r Av n sp c xs sr cr zs pa kr
section
variable {s s' r r' : FS} {Av : Nat → Prop}
theorem TwoAt.xlt (h : TwoAt base w N M R s r Av n sp c xs sr cr zs pa kr) : ∀ x ∈ xs, ∀ g, blk x.2.1 = some g → g < w.heap.size := fun x hx g hg => ((h.net.own.dat.own x hx).1.blk_lt g hg).2
theorem TwoAt.zlt (h : TwoAt base w N M R s r Av n sp c xs sr cr zs pa kr) : ∀ z ∈ zs, ∀ g, blk z.1.2.1 = some g → g < w.heap.size := fun z hz g hg => ((h.ref.own.dat z hz).blk_lt g hg).2
theorem TwoAt.later (h : TwoAt base w N M R s r Av n sp c xs sr cr zs pa kr) (hb : Below w.heap.size w w') : TwoAt base w' N M R s r Av n sp c xs sr cr zs pa kr :=
  { h with net := h.net.later hb, ref := h.ref.later hb, avL := fun g hg => Nat.lt_of_lt_of_le (h.avL g hg) hb.size }
theorem Two.later (h : Two base w N M R s r Av) (hb : Below w.heap.size w w') : Two base w' N M R s r Av := by
  obtain ⟨n, sp, c, xs, sr, cr, zs, pa, kr, h⟩ := h
  exact ⟨n, sp, c, xs, sr, cr, zs, pa, kr, h.later hb⟩
theorem Two.base_le (h : Two base w N M R s r Av) : base ≤ w.heap.size := by
  obtain ⟨n, sp, c, xs, sr, cr, zs, pa, kr, h⟩ := h
  exact Nat.le_trans h.net.lowN (Nat.le_of_lt h.net.ltN)
theorem Two.weaken {Av' : Nat → Prop} (h : Two base w N M R s r Av) (ha : ∀ g, Av' g → Av g) : Two base w N M R s r Av' := by
  obtain ⟨n, sp, c, xs, sr, cr, zs, pa, kr, h⟩ := h
  exact ⟨n, sp, c, xs, sr, cr, zs, pa, kr, { h with avN := fun x hx g hg hA => h.avN x hx g hg (ha g hA), avR := fun x hx g hg hA => h.avR x hx g hg (ha g hA), avL := fun g hA => h.avL g (ha g hA), avP := fun g hg hA => h.avP g hg (ha g hA), avQ := fun g hg hA => h.avQ g hg (ha g hA), avH := ⟨fun hA => h.avH.1 (ha _ hA), fun hA => h.avH.2.1 (ha _ hA), fun hA => h.avH.2.2 (ha _ hA)⟩ }⟩
/-- What is laid later lies in neither. -/
theorem Two.avoid {w1 : World} (h : Two base w N M R s r Av) (hb : Below w.heap.size w w1) (g0 : Option Nat) (hg0 : ∀ g, g0 = some g → w.heap.size ≤ g ∧ g < w1.heap.size) : Two base w1 N M R s r (fun g => Av g ∨ g0 = some g) := by
  obtain ⟨n, sp, c, xs, sr, cr, zs, pa, kr, h⟩ := h
  refine ⟨n, sp, c, xs, sr, cr, zs, pa, kr, { h.later hb with avN := fun x hx g hg hA => ?_, avR := fun x hx g hg hA => ?_, avL := fun g hA => ?_, avP := fun g hg hA => ?_, avQ := fun g hg hA => ?_, avH := ⟨fun hA => ?_, fun hA => ?_, fun hA => ?_⟩ }⟩
  · rcases hA with hA | hA
    · exact h.avN x hx g hg hA
    · have := h.xlt x hx g hg
      have := (hg0 g hA).1
      omega
  · rcases hA with hA | hA
    · exact h.avR x hx g hg hA
    · have := h.zlt x hx g hg
      have := (hg0 g hA).1
      omega
  · rcases hA with hA | hA
    · exact Nat.lt_of_lt_of_le (h.avL g hA) hb.size
    · exact (hg0 g hA).2
  · rcases hA with hA | hA
    · exact h.avP g hg hA
    · have := (h.net.own.blk_ge g hg).2
      have := (hg0 g hA).1
      omega
  · rcases hA with hA | hA
    · exact h.avQ g hg hA
    · have := (h.ref.own.blk_ge g hg).2
      have := (hg0 g hA).1
      omega
  · rcases hA with hA | hA
    · exact h.avH.1 hA
    · have := h.net.ltN
      have := (hg0 _ hA).1
      omega
  · rcases hA with hA | hA
    · exact h.avH.2.1 hA
    · obtain ⟨es, k, hM⟩ := h.net.blkM
      have := (Array.getElem?_eq_some_iff.1 hM).1
      have := (hg0 _ hA).1
      omega
  · rcases hA with hA | hA
    · exact h.avH.2.2 hA
    · have := h.ref.ltR
      have := (hg0 _ hA).1
      omega
theorem TwoAt.avsN (h : TwoAt base w N M R s r Av n sp c xs sr cr zs pa kr) : ∀ i, Av i → i < w.heap.size ∧ i ≠ N ∧ i ≠ M ∧ blk sp ≠ some i := fun i hi => ⟨h.avL i hi, fun e => h.avH.1 (e ▸ hi), fun e => h.avH.2.1 (e ▸ hi), fun e => h.avP i e hi⟩
theorem TwoAt.avsR (h : TwoAt base w N M R s r Av n sp c xs sr cr zs pa kr) : ∀ i, Av i → i < w.heap.size ∧ i ≠ R ∧ blk sr ≠ some i := fun i hi => ⟨h.avL i hi, fun e => h.avH.2.2 (e ▸ hi), fun e => h.avQ i e hi⟩
/-- The program's net goes on. -/
theorem TwoAt.netStep (h : TwoAt base w N M R s r Av n sp c xs sr cr zs pa kr) (h2 : NetAt base w' N M n' sp' c' xs' (s'.tot : Int) s'.S s'.ck) (g : NGrew N M w sp w' sp') (hpk : xs'.map (·.1) = s'.pk) (hn : n' ≤ s'.age) (hok : FOk s')
    (hnew : ∀ x ∈ xs', x ∈ xs ∨ ∀ g, blk x.2.1 = some g → w.heap.size ≤ g) : Two base w' N M R s' r Av ∧ Stp base NX Av w w' := by
  refine ⟨⟨n', sp', c', xs', sr, cr, zs, pa, kr, { h with net := h2, npk := hpk, nn := hn, ref := h.ref.ngrew h.net g, okN := hok, apart := fun x hx z hz g1 hg1 hz1 => ?_, avN := fun x hx g1 hg1 hA => ?_, avL := fun g1 hA => Nat.lt_of_lt_of_le (h.avL g1 hA) g.size, avP := fun g1 hg1 hA => (g.lies g1 hg1).elim (fun e => h.avP g1 e hA) (fun e => by have := h.avL g1 hA; omega) }⟩, Stp.ofN h.net g h.avsN⟩
  · rcases hnew x hx with h1 | h1
    · exact h.apart x h1 z hz g1 hg1 hz1
    · have := h1 g1 hg1
      have := h.zlt z hz g1 hz1
      omega
  · rcases hnew x hx with h1 | h1
    · exact h.avN x h1 g1 hg1 hA
    · have := h1 g1 hg1
      have := h.avL g1 hA
      omega
/-- The document's goes on. -/
theorem TwoAt.refStep (h : TwoAt base w N M R s r Av n sp c xs sr cr zs pa kr) (h2 : RefAt base w' R sr' cr' zs' pa' kr') (g : RGrew R w sr w' sr') (hpk : (alive zs').map (·.1) = r'.pk) (hids : Ids zs') (htot : zs'.length = r'.tot) (hpar : ∀ f t, isL f t = true → paS pa' f t = r'.S f t) (hclk : ∀ j, j < 9 → kr'.getD (j + 1) 0 = r'.ck.getD j 0) (hlen : ∀ z ∈ zs', z.1.1.2.2.2.length ≤ 65536) (hok : FOk r')
    (hnew : ∀ z ∈ zs', (∃ z0 ∈ zs, z0.1 = z.1) ∨ ∀ g, blk z.1.2.1 = some g → w.heap.size ≤ g) : Two base w' N M R s r' Av ∧ Stp base RX Av w w' := by
  refine ⟨⟨n, sp, c, xs, sr', cr', zs', pa', kr', { h with net := h.net.rgrew h.ref g, ref := h2, rpk := hpk, ids := hids, tot := htot, par := hpar, clk := hclk, len := hlen, okR := hok, apart := fun x hx z hz g1 hg1 hz1 => ?_, avR := fun z hz g1 hg1 hA => ?_, avL := fun g1 hA => Nat.lt_of_lt_of_le (h.avL g1 hA) g.size, avQ := fun g1 hg1 hA => (g.lies g1 hg1).elim (fun e => h.avQ g1 e hA) (fun e => by have := h.avL g1 hA; omega) }⟩, Stp.ofR h.ref g h.avsR⟩
  · rcases hnew z hz with ⟨z0, h0, e0⟩ | h1
    · exact h.apart x hx z0 h0 g1 hg1 (by rw [e0]; exact hz1)
    · have := h1 g1 hz1
      have := h.xlt x hx g1 hg1
      omega
  · rcases hnew z hz with ⟨z0, h0, e0⟩ | h1
    · exact h.avR z0 h0 g1 (by rw [e0]; exact hg1) hA
    · have := h1 g1 hg1
      have := h.avL g1 hA
      omega
end
end
end Go.Proofs.Yticemhnfcelpmaa
