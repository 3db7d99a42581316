/- Disk: what a file is by its changes; a disk in memory. -/
import Derived.Test.YtijcpmbfhfppmaaGreatDoorB10
import Derived.Test.YtijcpmbfhfppmaaGreatDoorB08
import Derived.Test.YtijcpmbfhfppmaaGreatDoorB01
import Derived.Deep.RegionHeld3
section
namespace Go.Proofs.YtijcpmbfhfppmaaGreatDoor
open Go.ChangeShapes Go.WideShapes Go.ChangeAt Go.RowKit Go.Maps

/-- A file by the document: whether something lasts, what lasts, the changes since. -/
structure Sp where
  la : Bool
  y : List Nat
  cs : List Chg
def nowC : List Chg → List Nat → List Nat
  | [], y => y
  | c :: cs, y => nowC cs (ontoC c y (unitsC c))
def Sp.now (s : Sp) : List Nat := nowC s.cs s.y
def Fil.sp (f : Fil) : Sp := ⟨f.la, f.y, f.xs.map (·.1)⟩
theorem nowC_snoc (c : Chg) : ∀ (cs : List Chg) (y : List Nat), nowC (cs ++ [c]) y = ontoC c (nowC cs y) (unitsC c)
  | [], _ => rfl
  | x :: cs, y => by simp only [List.cons_append, nowC]; exact nowC_snoc c cs _
theorem fitsC_snoc (c : Chg) : ∀ (cs : List Chg) (y : List Nat), fitsC cs y → c.2.1 ≤ (nowC cs y).length → (nowC cs y).length + c.2.2.length ≤ 140737488355328 → fitsC (cs ++ [c]) y
  | [], _, _, h1, h2 => ⟨h1, h2, trivial⟩
  | _ :: cs, _, h, h1, h2 => ⟨h.1, h.2.1, fitsC_snoc c cs _ h.2.2 h1 h2⟩
def smallC (c : Chg) : Prop := (c.1 = false → c.2.1 + c.2.2.length ≤ 262144 ∧ 0 < c.2.2.length) ∧ (c.1 = true → c.2.2 = [])
theorem ontoC_small (c : Chg) (y : List Nat) (u : Nat) (hk : c.2.1 ≤ y.length) (hs : smallC c) (hy : y.length ≤ 262144) : (ontoC c y u).length ≤ 262144 := by
  unfold ontoC
  split
  · rw [List.length_take]; omega
  · rename_i h
    have := (hs.1 (by simpa using h)).1
    rw [overL_length _ _ _ hk, List.length_take]; omega
theorem crashL_small : ∀ (cs : List Chg) (y : List Nat) (n : Nat), fitsC cs y → (∀ c ∈ cs, smallC c) → y.length ≤ 262144 → (crashL cs y n).1.length ≤ 262144
  | [], _, _, _, _, h => h
  | c :: cs, y, n, hf, hs, hy => by
    unfold crashL
    split
    · exact hy
    · have h1 := ontoC_small c y (min n (unitsC c)) hf.1 (hs c List.mem_cons_self) hy
      by_cases h2 : n ≤ unitsC c
      · rw [show n - min n (unitsC c) = 0 by omega, crashL_zero]
        exact h1
      · rw [show min n (unitsC c) = unitsC c by omega] at h1 ⊢
        exact crashL_small cs _ _ hf.2.2 (fun x hx => hs x (List.mem_cons_of_mem _ hx)) h1
/-- A file that the calls have made, of at most N changes. -/
structure FOk (N : Nat) (f : Fil) : Prop where
  now : f.b = f.sp.now
  fit : fitsC f.sp.cs f.y
  small : ∀ c ∈ f.sp.cs, smallC c
  y8 : f.y.length ≤ 262144
  b8 : f.b.length ≤ 262144
  few : f.xs.length ≤ N
  gone : f.la = false → f.y = []
def fil0 : Fil := ⟨none, 0, [], none, 0, [], false, none, 0, []⟩
theorem FOk.zero (N : Nat) : FOk N fil0 := ⟨rfl, trivial, by simp [fil0, Fil.sp], by simp [fil0], by simp [fil0], by simp [fil0], fun _ => rfl⟩
theorem FOk.mono {N M : Nat} {f : Fil} (h : FOk N f) (hm : N ≤ M) : FOk M f := ⟨h.now, h.fit, h.small, h.y8, h.b8, Nat.le_trans h.few hm, h.gone⟩
theorem FOk.write {N : Nat} {f : Fil} (h : FOk N f) (k : Nat) (hk : k ≤ f.b.length) (o : List Nat) (ho : 0 < o.length) (hm : k + o.length ≤ 262144) (bp : Option Addr) (bc : Nat) (cp : Option Addr) (cc : Nat) (hd : Option Addr × Nat) :
    FOk (N + 1) ((f.over bp bc (overL f.b k o)).more cp cc ((false, k, o), hd)) := by
  have hn : f.b = nowC f.sp.cs f.y := h.now
  have hc : ((f.over bp bc (overL f.b k o)).more cp cc ((false, k, o), hd)).sp.cs = f.sp.cs ++ [(false, k, o)] := by simp [Fil.sp, Fil.more, Fil.over]
  have hb8 : (overL f.b k o).length ≤ 262144 := by rw [overL_length _ _ _ hk]; have := h.b8; omega
  refine ⟨?_, ?_, ?_, h.y8, hb8, ?_, h.gone⟩
  · show overL f.b k o = nowC _ f.y
    rw [hc, nowC_snoc, ← hn]
    simp [ontoC, unitsC]
  · rw [hc]
    refine fitsC_snoc _ _ _ h.fit ?_ ?_
    · show k ≤ (nowC f.sp.cs f.y).length
      rw [← hn]; exact hk
    · show (nowC f.sp.cs f.y).length + o.length ≤ _
      rw [← hn]; have := h.b8; omega
  · rw [hc]
    intro c hcm
    rcases List.mem_append.1 hcm with hcm | hcm
    · exact h.small c hcm
    · obtain rfl : c = (false, k, o) := by simpa using hcm
      exact ⟨fun _ => ⟨hm, ho⟩, fun e => by cases e⟩
  · simp only [Fil.more, Fil.over, List.length_append, List.length_cons, List.length_nil]
    have := h.few
    omega
theorem FOk.over0 {N : Nat} {f : Fil} (h : FOk N f) (k : Nat) (bp : Option Addr) (bc : Nat) : FOk N (f.over bp bc (overL f.b k [])) := by
  rw [overL_nil]
  exact ⟨h.now, h.fit, h.small, h.y8, h.b8, h.few, h.gone⟩
theorem FOk.cut {N : Nat} {f : Fil} (h : FOk N f) (k : Nat) (hk : k ≤ f.b.length) (cp : Option Addr) (cc : Nat) : FOk (N + 1) ((f.shorter k).more cp cc ((true, k, []), (none, 0))) := by
  have hn : f.b = nowC f.sp.cs f.y := h.now
  have hc : ((f.shorter k).more cp cc ((true, k, []), (none, 0))).sp.cs = f.sp.cs ++ [(true, k, [])] := by simp [Fil.sp, Fil.more, Fil.shorter]
  refine ⟨?_, ?_, ?_, h.y8, ?_, ?_, h.gone⟩
  · show f.b.take k = nowC _ f.y
    rw [hc, nowC_snoc, ← hn]
    simp [ontoC]
  · rw [hc]
    refine fitsC_snoc _ _ _ h.fit ?_ ?_
    · show k ≤ (nowC f.sp.cs f.y).length
      rw [← hn]; exact hk
    · show (nowC f.sp.cs f.y).length + 0 ≤ _
      rw [← hn]; have := h.b8; omega
  · rw [hc]
    intro c hcm
    rcases List.mem_append.1 hcm with hcm | hcm
    · exact h.small c hcm
    · obtain rfl : c = (true, k, []) := by simpa using hcm
      exact ⟨fun e => (by cases e), fun _ => rfl⟩
  · show (f.b.take k).length ≤ _
    rw [List.length_take]; have := h.b8; omega
  · simp only [Fil.more, Fil.shorter, List.length_append, List.length_cons, List.length_nil]
    have := h.few
    omega
theorem FOk.synced {N : Nat} {f : Fil} (h : FOk N f) (yp : Option Addr) : FOk N (f.synced yp) :=
  ⟨rfl, trivial, by simp [Fil.synced, Fil.sp], h.b8, h.b8, by simp [Fil.synced], fun e => by cases e⟩
theorem FOk.crashed {N : Nat} {f g : Fil} (h : FOk N f) (U : Nat) (hb : g.b = (crashL f.sp.cs f.y U).1) (hy : g.y = (crashL f.sp.cs f.y U).1) (hl : g.la = true) (hx : g.xs = []) : FOk N g := by
  have h8 := crashL_small f.sp.cs f.y U h.fit h.small h.y8
  refine ⟨?_, ?_, ?_, by rw [hy]; exact h8, by rw [hb]; exact h8, by simp [hx], fun e => by rw [hl] at e; cases e⟩
  · simp [Sp.now, Fil.sp, hx, nowC, hb, hy]
  · simp [Fil.sp, hx, fitsC]
  · simp [Fil.sp, hx]
theorem FileAt.mut_lt {base : Nat} {w : World} {F : Nat} {f : Fil} (h : FileAt base w F f) {g : Nat} (hg : f.mut F g) : base ≤ g ∧ g < w.heap.size := by
  rcases hg with rfl | hg | hg | hg
  · exact ⟨h.low, h.ltF⟩
  · exact ⟨(h.bytes.isT g hg).1, (h.bytes.isT g hg).2.1⟩
  · exact ⟨(h.sure.isT g hg).1, (h.sure.isT g hg).2.1⟩
  · exact ⟨(h.chs.blk_is g hg).1, (h.chs.blk_is g hg).2.1⟩
theorem FileAt.red_lt {base : Nat} {w : World} {F : Nat} {f : Fil} (h : FileAt base w F f) {g : Nat} (hg : f.red g) : 0 ≤ g ∧ g < w.heap.size ∧ ∃ cur : Array Value, w.heap[g]? = some (.cells cur 5 (0, 0)) := by
  obtain ⟨x, hx, hg⟩ := hg
  exact (h.chs.dat x hx).isT g hg
/-- Which kinds of blocks a file lies in. -/
theorem FileAt.mut_is {base : Nat} {w : World} {F : Nat} {f : Fil} (h : FileAt base w F f) {g : Nat} (hg : f.mut F g) : ∃ (cur : Array Value) (T : TypeId), w.heap[g]? = some (.cells cur T (0, 0)) ∧ (T = 118 ∨ T = 5 ∨ T = 152) := by
  rcases hg with rfl | hg | hg | hg
  · exact ⟨_, _, h.box, .inl rfl⟩
  · obtain ⟨_, _, cur, hc⟩ := h.bytes.isT g hg
    exact ⟨_, _, hc, .inr (.inl rfl)⟩
  · obtain ⟨_, _, cur, hc⟩ := h.sure.isT g hg
    exact ⟨_, _, hc, .inr (.inl rfl)⟩
  · obtain ⟨_, _, cur, hc⟩ := h.chs.blk_is g hg
    exact ⟨_, _, hc, .inr (.inr rfl)⟩
theorem FileAt.self {base : Nat} {w : World} {F : Nat} {f : Fil} (h : FileAt base w F f) {g : Nat} (hm : f.mut F g) : ¬ f.red g := by
  intro hr
  obtain ⟨_, _, cur, hc⟩ := h.red_lt hr
  obtain ⟨x, hx, hg⟩ := hr
  rcases hm with rfl | hm | hm | hm
  · rw [h.box] at hc; simp at hc
  · exact (h.far x hx g hg).1 hm
  · exact (h.far x hx g hg).2 hm
  · obtain ⟨_, _, cur2, hc2⟩ := h.chs.blk_is g hm
    rw [hc2] at hc; simp at hc
theorem Bx.same {base : Nat} {w w' : World} {sp : Option Addr} {c : Nat} {l : List Nat} (h : Bx base w sp c l) (hs : ∀ g, blk sp = some g → w'.heap[g]? = w.heap[g]?) : Bx base w' sp c l := by
  refine ⟨h.lt, ?_⟩
  rcases h.row with hv | ⟨g, cur, h1, hb, hh, r⟩
  · exact .inl hv
  · exact .inr ⟨g, cur, h1, hb, (hs g (by rw [h1]; rfl)).trans hh, r⟩
theorem OwnC.same {base : Nat} {w w' : World} {sp : Option Addr} {c : Nat} {xs : List ChH} (h : OwnC base w sp c xs) (hs : ∀ g, blk sp = some g → w'.heap[g]? = w.heap[g]?) (hd : ∀ x ∈ xs, ∀ g, blk x.2.1 = some g → w'.heap[g]? = w.heap[g]?) : OwnC base w' sp c xs := by
  refine ⟨⟨h.row.1, ?_⟩, fun x hx => (h.dat x hx).same (hd x hx)⟩
  rcases h.row.2 with hv | ⟨g, cap, cur, hv, hb, hg, r⟩
  · exact .inl hv
  · refine .inr ⟨g, cap, cur, hv, hb, (hs g ?_).trans hg, r⟩
    simp only [Value.slice.injEq] at hv
    rw [hv.1]; rfl
theorem FileAt.same {base : Nat} {w w' : World} {F : Nat} {f : Fil} (h : FileAt base w F f) (hs : ∀ g, f.mut F g ∨ f.red g → w'.heap[g]? = w.heap[g]?) : FileAt base w' F f :=
  ⟨(hs F (.inl (.inl rfl))).trans h.box, h.bytes.same (fun g hg => hs g (.inl (.inr (.inl hg)))), h.sure.same (fun g hg => hs g (.inl (.inr (.inr (.inl hg))))),
    h.chs.same (fun g hg => hs g (.inl (.inr (.inr (.inr hg))))) (fun x hx g hg => hs g (.inr ⟨x, hx, hg⟩)), h.low, h.apart, h.far⟩
/-- A disk in memory: its block, its map's, its room, its files by their names. -/
abbrev Fe := Nm × Nat × Fil
def Fe.mut (x : Fe) (g : Nat) : Prop := x.2.2.mut x.2.1 g
def Fe.red (x : Fe) (g : Nat) : Prop := x.2.2.red g
abbrev ptrs (fs : List Fe) : List (Nm × Nat) := fs.map (fun x => (x.1, x.2.1))
abbrev sps (fs : List Fe) : List (Nm × Sp) := fs.map (fun x => (x.1, x.2.2.sp))
structure DiskAt (base : Nat) (w : World) (d M room N : Nat) (fs : List Fe) : Prop where
  box : w.heap[d]? = some (.cells #[.int .i64 (room : Int), .map (some M)] 101 (0, 0))
  map : MapAt w M (ptrs fs)
  rise : Rises fs
  file : ∀ x ∈ fs, FileAt base w x.2.1 x.2.2
  ok : ∀ x ∈ fs, FOk N x.2.2
  lowD : base ≤ d
  lowM : base ≤ M
  ap : ∀ x ∈ fs, ∀ y ∈ fs, x.1 ≠ y.1 → ∀ g, x.mut g → ¬ y.mut g
  rd : ∀ x ∈ fs, ∀ y ∈ fs, ∀ g, x.mut g → ¬ y.red g
  few : fs.length ≤ 16
  names : ∀ x ∈ fs, x.1.length ≤ 64
/-- The blocks that calls on a disk may write to, and those that they only read. -/
def DMut (d M : Nat) (fs : List Fe) (g : Nat) : Prop := g = d ∨ g = M ∨ ∃ x ∈ fs, x.mut g
def DRed (fs : List Fe) (g : Nat) : Prop := ∃ x ∈ fs, x.red g
structure DGrew (d M : Nat) (w : World) (fs : List Fe) (w' : World) (fs' : List Fe) : Prop where
  os : w'.os = w.os
  tape : w'.tape = w.tape
  output : w'.output = w.output
  size : w.heap.size ≤ w'.heap.size
  block : ∀ i, i < w.heap.size → ¬ DMut d M fs i → w'.heap[i]? = w.heap[i]?
  muts : ∀ g, DMut d M fs' g → DMut d M fs g ∨ w.heap.size ≤ g
  reds : ∀ g, DRed fs' g → DRed fs g ∨ w.heap.size ≤ g
section
variable {base d M room N : Nat} {w w' : World} {fs fs' fs2 : List Fe}
theorem DGrew.refl : DGrew d M w fs w fs := ⟨rfl, rfl, rfl, Nat.le_refl _, fun _ _ _ => rfl, fun _ h => .inl h, fun _ h => .inl h⟩
theorem DGrew.trans {w2 : World} (h : DGrew d M w fs w' fs') (k : DGrew d M w' fs' w2 fs2) : DGrew d M w fs w2 fs2 := by
  refine ⟨k.os.trans h.os, k.tape.trans h.tape, k.output.trans h.output, Nat.le_trans h.size k.size, fun i hi hn => ?_, fun g hg => ?_, fun g hg => ?_⟩
  · refine (k.block i (Nat.lt_of_lt_of_le hi h.size) (fun hm => ?_)).trans (h.block i hi hn)
    rcases h.muts i hm with h1 | h1
    · exact hn h1
    · omega
  · rcases k.muts g hg with h1 | h1
    · exact h.muts g h1
    · exact .inr (Nat.le_trans h.size h1)
  · rcases k.reds g hg with h1 | h1
    · exact h.reds g h1
    · exact .inr (Nat.le_trans h.size h1)
theorem DGrew.ofBelow (hb : Below w.heap.size w w') : DGrew d M w fs w' fs := ⟨hb.os, hb.tape, hb.output, hb.size, fun i hi _ => hb.block i hi, fun _ h => .inl h, fun _ h => .inl h⟩
theorem DiskAt.ltD (h : DiskAt base w d M room N fs) : d < w.heap.size := (Array.getElem?_eq_some_iff.1 h.box).1
theorem DiskAt.mut_lt (h : DiskAt base w d M room N fs) {g : Nat} (hg : DMut d M fs g) : base ≤ g ∧ g < w.heap.size := by
  rcases hg with rfl | rfl | ⟨x, hx, hg⟩
  · exact ⟨h.lowD, h.ltD⟩
  · exact ⟨h.lowM, h.map.lt⟩
  · exact (h.file x hx).mut_lt hg
theorem DiskAt.red_lt (h : DiskAt base w d M room N fs) {g : Nat} (hg : DRed fs g) : 0 ≤ g ∧ g < w.heap.size := by
  obtain ⟨x, hx, hg⟩ := hg
  exact ⟨((h.file x hx).red_lt hg).1, ((h.file x hx).red_lt hg).2.1⟩
/-- Its own block and its map's lie in no file. -/
theorem DiskAt.dm (h : DiskAt base w d M room N fs) : d ≠ M := by
  intro e
  obtain ⟨es, k, hm⟩ := h.map.isMap
  rw [← e, h.box] at hm
  simp at hm
theorem DiskAt.notD (h : DiskAt base w d M room N fs) {x : Fe} (hx : x ∈ fs) : ¬ x.mut d ∧ ¬ x.red d := by
  constructor
  · intro hm
    obtain ⟨cur, T, hc, hT⟩ := (h.file x hx).mut_is hm
    rw [h.box] at hc
    simp only [Option.some.injEq, Obj.cells.injEq] at hc
    rw [← hc.2.1] at hT
    exact absurd hT (by decide)
  · intro hm
    obtain ⟨_, _, cur, hc⟩ := (h.file x hx).red_lt hm
    rw [h.box] at hc
    simp at hc
theorem DiskAt.notM (h : DiskAt base w d M room N fs) {x : Fe} (hx : x ∈ fs) : ¬ x.mut M ∧ ¬ x.red M := by
  obtain ⟨es, k, hm0⟩ := h.map.isMap
  constructor
  · intro hm
    obtain ⟨cur, T, hc, hT⟩ := (h.file x hx).mut_is hm
    rw [hm0] at hc
    simp at hc
  · intro hm
    obtain ⟨_, _, cur, hc⟩ := (h.file x hx).red_lt hm
    rw [hm0] at hc
    simp at hc
theorem DiskAt.same (h : DiskAt base w d M room N fs) (hs : ∀ g, g < w.heap.size → DMut d M fs g ∨ DRed fs g → w'.heap[g]? = w.heap[g]?) : DiskAt base w' d M room N fs :=
  ⟨(hs d h.ltD (.inl (.inl rfl))).trans h.box, h.map.same (hs M h.map.lt (.inl (.inr (.inl rfl)))), h.rise, fun x hx => (h.file x hx).same (fun g hg => by
    rcases hg with hg | hg
    · exact hs g ((h.file x hx).mut_lt hg).2 (.inl (.inr (.inr ⟨x, hx, hg⟩)))
    · exact hs g ((h.file x hx).red_lt hg).2.1 (.inr ⟨x, hx, hg⟩)), h.ok, h.lowD, h.lowM, h.ap, h.rd, h.few, h.names⟩
theorem DiskAt.later (h : DiskAt base w d M room N fs) (hb : Below w.heap.size w w') : DiskAt base w' d M room N fs := h.same (fun g hg _ => hb.block g hg)
theorem DiskAt.mono {N' : Nat} (h : DiskAt base w d M room N fs) (hN : N ≤ N') : DiskAt base w d M room N' fs :=
  ⟨h.box, h.map, h.rise, h.file, fun x hx => (h.ok x hx).mono hN, h.lowD, h.lowM, h.ap, h.rd, h.few, h.names⟩
theorem putF_same {α : Type} {k : Nm} {v : α} : ∀ {fs : List (Nm × α)}, Rises fs → (k, v) ∈ fs → putF k v fs = fs
  | [], _, h => by simp at h
  | x :: r, h, hm => by
    have h1 := List.pairwise_cons.1 h
    unfold putF
    rcases List.mem_cons.1 hm with rfl | hm
    · rw [if_neg (nm_irrefl _), if_pos rfl]
    · rw [if_pos (h1.1 _ hm), putF_same h1.2 hm]
/-- One file has changed, or a new one stands there (by its own call alone): the map has it already. -/
theorem DiskAt.upd (h : DiskAt base w d M room N fs) {x : Fe} (hx : x ∈ fs) {f' : Fil} {N' : Nat} (hf : FileAt base w' x.2.1 f') (hg : FGrew x.2.1 w x.2.2 w' f') (hok : FOk N' f') (hN : N ≤ N') :
    DiskAt base w' d M room N' (putF x.1 (x.2.1, f') fs) ∧ DGrew d M w fs w' (putF x.1 (x.2.1, f') fs) := by
  have hmem := fun (y : Fe) => mem_putF (k := x.1) (v := (x.2.1, f')) h.rise y
  have hnew : ∀ g, f'.mut x.2.1 g → x.mut g ∨ w.heap.size ≤ g := hg.muts
  have hnewr : ∀ g, f'.red g → x.red g ∨ w.heap.size ≤ g := hg.reds
  have hout : ∀ y ∈ fs, y.1 ≠ x.1 → ∀ g, y.mut g ∨ y.red g → w'.heap[g]? = w.heap[g]? := by
    intro y hy hne g hyg
    refine hg.block g ?_ (fun hm => ?_)
    · rcases hyg with h1 | h1
      · exact ((h.file y hy).mut_lt h1).2
      · exact ((h.file y hy).red_lt h1).2.1
    · rcases hyg with h1 | h1
      · exact h.ap y hy x hx hne g h1 hm
      · exact h.rd x hx y hy g hm h1
  have hptr : ptrs (putF x.1 (x.2.1, f') fs) = ptrs fs := by
    show (putF x.1 (x.2.1, f') fs).map (fun y => (y.1, (fun z : Nat × Fil => z.1) y.2)) = _
    rw [putF_map]
    exact putF_same (h.rise.map _) (List.mem_map.2 ⟨x, hx, rfl⟩)
  have hkin : x.1 ∈ fs.map (·.1) := List.mem_map.2 ⟨x, hx, rfl⟩
  refine ⟨⟨(hg.block d h.ltD (h.notD hx).1).trans h.box, ?_, h.rise.put _ _, ?_, ?_, h.lowD, h.lowM, ?_, ?_, ?_, ?_⟩, ⟨hg.os, hg.tape, hg.output, hg.size, fun i hi hn => hg.block i hi (fun hm => hn (.inr (.inr ⟨x, hx, hm⟩))), ?_, ?_⟩⟩
  · rw [hptr]
    exact h.map.same (hg.block M h.map.lt (h.notM hx).1)
  · intro y hy
    rcases (hmem y).1 hy with rfl | ⟨hy, hne⟩
    · exact hf
    · exact (h.file y hy).same (fun g hgy => hout y hy hne g hgy)
  · intro y hy
    rcases (hmem y).1 hy with rfl | ⟨hy, hne⟩
    · exact hok
    · exact (h.ok y hy).mono hN
  · intro y hy z hz hne g hyg hzg
    rcases (hmem y).1 hy with rfl | ⟨hy, hye⟩ <;> rcases (hmem z).1 hz with rfl | ⟨hz, hze⟩
    · exact hne rfl
    · rcases hnew g hyg with h1 | h1
      · exact h.ap x hx z hz (fun e => hze e.symm) g h1 hzg
      · have := ((h.file z hz).mut_lt hzg).2; omega
    · rcases hnew g hzg with h1 | h1
      · exact h.ap y hy x hx hye g hyg h1
      · have := ((h.file y hy).mut_lt hyg).2; omega
    · exact h.ap y hy z hz hne g hyg hzg
  · intro y hy z hz g hyg hzg
    rcases (hmem y).1 hy with rfl | ⟨hy, hye⟩ <;> rcases (hmem z).1 hz with rfl | ⟨hz, hze⟩
    · exact hf.self hyg hzg
    · rcases hnew g hyg with h1 | h1
      · exact h.rd x hx z hz g h1 hzg
      · have := ((h.file z hz).red_lt hzg).2.1; omega
    · rcases hnewr g hzg with h1 | h1
      · exact h.rd y hy x hx g hyg h1
      · have := ((h.file y hy).mut_lt hyg).2; omega
    · exact h.rd y hy z hz g hyg hzg
  · have e := congrArg List.length hptr
    simp only [ptrs, List.length_map] at e
    rw [e]; exact h.few
  · intro y hy
    rcases (hmem y).1 hy with rfl | ⟨hy, _⟩
    · exact h.names x hx
    · exact h.names y hy
  · intro g hgm
    rcases hgm with e | e | ⟨y, hy, hgm⟩
    · exact .inl (.inl e)
    · exact .inl (.inr (.inl e))
    · rcases (hmem y).1 hy with rfl | ⟨hy, _⟩
      · rcases hnew g hgm with h1 | h1
        · exact .inl (.inr (.inr ⟨x, hx, h1⟩))
        · exact .inr h1
      · exact .inl (.inr (.inr ⟨y, hy, hgm⟩))
  · intro g hgm
    obtain ⟨y, hy, hgm⟩ := hgm
    rcases (hmem y).1 hy with rfl | ⟨hy, _⟩
    · rcases hnewr g hgm with h1 | h1
      · exact .inl ⟨x, hx, h1⟩
      · exact .inr h1
    · exact .inl ⟨y, hy, hgm⟩
/-- The map alone has changed: files are taken away, or one that lies apart comes to it. -/
theorem DiskAt.remap (h : DiskAt base w d M room N fs) (hg : w.grownBy w' (some M)) (hm : MapAt w' M (ptrs fs')) (hr : Rises fs') (hsub : ∀ y ∈ fs', y.1.length ≤ 64 ∧ ∃ x ∈ fs, y.2 = x.2) (hinj : ∀ y ∈ fs', ∀ z ∈ fs', y.1 ≠ z.1 → ∀ a ∈ fs, ∀ b ∈ fs, y.2 = a.2 → z.2 = b.2 → a.1 ≠ b.1) (hfew : fs'.length ≤ 16) :
    DiskAt base w' d M room N fs' ∧ DGrew d M w fs w' fs' := by
  have hk : ∀ g, g < w.heap.size → g ≠ M → w'.heap[g]? = w.heap[g]? := fun g hlt hne => hg.block g hlt (fun e => hne (Option.some.inj e))
  have hfile : ∀ x ∈ fs, FileAt base w' x.2.1 x.2.2 := fun x hx => (h.file x hx).same (fun g hgx => by
    rcases hgx with h1 | h1
    · exact hk g ((h.file x hx).mut_lt h1).2 (fun e => (h.notM hx).1 (e ▸ h1))
    · exact hk g ((h.file x hx).red_lt h1).2.1 (fun e => (h.notM hx).2 (e ▸ h1)))
  refine ⟨⟨(hk d h.ltD h.dm).trans h.box, hm, hr, ?_, ?_, h.lowD, h.lowM, ?_, ?_, hfew, fun y hy => (hsub y hy).1⟩, ⟨hg.os, hg.tape, hg.output, hg.size, fun i hi hn => hk i hi (fun e => hn (.inr (.inl e))), ?_, ?_⟩⟩
  · intro y hy
    obtain ⟨_, x, hx, e⟩ := hsub y hy
    rw [e]; exact hfile x hx
  · intro y hy
    obtain ⟨_, x, hx, e⟩ := hsub y hy
    rw [e]; exact h.ok x hx
  · intro y hy z hz hne g hyg hzg
    obtain ⟨_, a, ha, ea⟩ := hsub y hy
    obtain ⟨_, b, hb, eb⟩ := hsub z hz
    have h1 := hinj y hy z hz hne a ha b hb ea eb
    unfold Fe.mut at hyg hzg
    rw [ea] at hyg
    rw [eb] at hzg
    exact h.ap a ha b hb h1 g hyg hzg
  · intro y hy z hz g hyg hzg
    obtain ⟨_, a, ha, ea⟩ := hsub y hy
    obtain ⟨_, b, hb, eb⟩ := hsub z hz
    unfold Fe.mut at hyg
    unfold Fe.red at hzg
    rw [ea] at hyg
    rw [eb] at hzg
    exact h.rd a ha b hb g hyg hzg
  · intro g hgm
    rcases hgm with e | e | ⟨y, hy, hgm⟩
    · exact .inl (.inl e)
    · exact .inl (.inr (.inl e))
    · obtain ⟨_, x, hx, e⟩ := hsub y hy
      unfold Fe.mut at hgm
      rw [e] at hgm
      exact .inl (.inr (.inr ⟨x, hx, hgm⟩))
  · intro g hgm
    obtain ⟨y, hy, hgm⟩ := hgm
    obtain ⟨_, x, hx, e⟩ := hsub y hy
    unfold Fe.red at hgm
    rw [e] at hgm
    exact .inl ⟨x, hx, hgm⟩
end
end Go.Proofs.YtijcpmbfhfppmaaGreatDoor
end
/- Logs: what a log's records say, and how it lies in memory. -/
section
namespace Go.Proofs.YtijcpmbfhfppmaaGreatDoor
open Go.ChangeShapes Go.WideShapes Go.ChangeAt Go.RowKit
set_option linter.unusedVariables false

/-- What a log's records say: base, hard state, entries. -/
structure Wc where
  bi : Nat
  bt : Nat
  ht : Nat
  hv : Nat
  es : List EntN
def wc0 : Wc := ⟨0, 0, 0, 0, []⟩
/-- Entries of one's own: the row, and where their data lie. -/
structure OwnL (base : Nat) (w : World) (sp : Option Addr) (c : Nat) (es : List EntN) (hs : List (Option Addr × Nat)) : Prop where
  len : hs.length = es.length
  row : w.ownsRow base 60 4 (.slice sp es.length c) es.length (rowsV es hs)
  dat : ∀ i (hi : i < es.length) (hj : i < hs.length), Bx base w hs[i].1 hs[i].2 es[i].2.2.2
/-- The blocks of entries. -/
def LFoot (sp : Option Addr) (hs : List (Option Addr × Nat)) (g : Nat) : Prop := blk sp = some g ∨ ∃ h ∈ hs, blk h.1 = some g
section
variable {base : Nat} {w w' : World} {sp : Option Addr} {c : Nat} {es : List EntN} {hs : List (Option Addr × Nat)}
theorem OwnL.ofNil (base : Nat) (w : World) : OwnL base w none 0 [] [] := ⟨rfl, w.ownsRow_nil base 60 4, fun i hi => by simp at hi⟩
theorem OwnL.foot (h : OwnL base w sp c es hs) : ∀ g, LFoot sp hs g → base ≤ g ∧ g < w.heap.size ∧ ∃ (cur : Array Value) (T : TypeId), w.heap[g]? = some (.cells cur T (0, 0)) ∧ (T = 60 ∨ T = 5) := by
  rintro g (hg | ⟨x, hx, hg⟩)
  · rcases h.row.2 with ⟨hv, h0⟩ | ⟨g', cap, cur, hv, hbg, hh, _⟩
    · simp only [Value.slice.injEq] at hv
      rw [hv.1] at hg
      cases hg
    · simp only [Value.slice.injEq] at hv
      rw [hv.1] at hg
      cases hg
      exact ⟨hbg, (Array.getElem?_eq_some_iff.1 hh).1, cur, _, hh, .inl rfl⟩
  · obtain ⟨i, hi, rfl⟩ := List.getElem_of_mem hx
    obtain ⟨h1, h2, cur, h3⟩ := (h.dat i (by rw [← h.len]; exact hi) hi).isT g hg
    exact ⟨h1, h2, cur, _, h3, .inr rfl⟩
theorem OwnL.same (h : OwnL base w sp c es hs) (hk : ∀ g, LFoot sp hs g → w'.heap[g]? = w.heap[g]?) : OwnL base w' sp c es hs := by
  refine ⟨h.len, ⟨h.row.1, ?_⟩, fun i hi hj => (h.dat i hi hj).same (fun g hg => hk g (.inr ⟨_, List.getElem_mem hj, hg⟩))⟩
  rcases h.row.2 with hv | ⟨g, cap, cur, hv, hbg, hg, r⟩
  · exact .inl hv
  · refine .inr ⟨g, cap, cur, hv, hbg, (hk g (.inl ?_)).trans hg, r⟩
    simp only [Value.slice.injEq] at hv
    rw [hv.1]
    rfl
theorem OwnL.later (h : OwnL base w sp c es hs) (hb : Below w.heap.size w w') : OwnL base w' sp c es hs := h.same (fun g hg => hb.block g (h.foot g hg).2.1)
theorem OwnL.mono {base' : Nat} (h : OwnL base w sp c es hs) (hb : base' ≤ base) : OwnL base' w sp c es hs :=
  ⟨h.len, ⟨h.row.1, h.row.2.imp id (fun ⟨g, cap, cur, h1, h2, h3⟩ => ⟨g, cap, cur, h1, Nat.le_trans hb h2, h3⟩)⟩, fun i hi hj => (h.dat i hi hj).mono hb⟩
theorem OwnL.ents (h : OwnL base w sp c es hs) : EntsAt w sp (es.map toI) := by
  refine ⟨fun i hi => ?_⟩
  have hi' : i < es.length := by simpa using hi
  have hh : i < hs.length := by rw [h.len]; exact hi'
  rcases h.row.2 with ⟨hv, h0⟩ | ⟨g, cap, cur, hv, hb, hg, hle, hmx, hsz, ht⟩
  · omega
  · simp only [Value.slice.injEq] at hv
    obtain ⟨rfl, _, rfl⟩ := hv
    have one : ∀ f, f < 4 → w.cell? ⟨g, 0 + i * 4 + f, none⟩ = (entRow es[i] hs[i])[f]? := fun f hf => by
      have hk := rowsV_get es hs i f hi' hh hf
      rw [Nat.zero_add, cell_of_row w g _ cur _ _ hg, ← Array.getElem?_toList]
      have hj : i * 4 + f < es.length * 4 := by omega
      rw [← ht, List.getElem?_take, if_pos hj] at hk
      exact hk
    have e : (es.map toI)[i] = toI es[i] := by simp
    rw [e]
    have hd := h.dat i hi' hh
    exact ⟨g, 0, hs[i].1, hs[i].2, rfl, one 0 (by omega), one 1 (by omega), one 2 (by omega), one 3 (by omega), hd.bytes, hd.nil0⟩
theorem rowsV_take : ∀ (es : List EntN) (hs : List (Option Addr × Nat)) (k : Nat), hs.length = es.length → rowsV (es.take k) (hs.take k) = (rowsV es hs).take (k * 4)
  | [], [], k, _ => by simp [rowsV]
  | [], _ :: _, _, h => by simp at h
  | _ :: _, [], _, h => by simp at h
  | e :: es, h :: hs, 0, _ => by simp [rowsV]
  | e :: es, h :: hs, k + 1, hl => by
    have ih := rowsV_take es hs k (by simpa using hl)
    have hc : ∀ (e : EntN) (es : List EntN) (h : Option Addr × Nat) (hs : List (Option Addr × Nat)), rowsV (e :: es) (h :: hs) = entRow e h ++ rowsV es hs := fun _ _ _ _ => rfl
    have t1 : (entRow e h).take (4 + k * 4) = entRow e h := List.take_of_length_le (show 4 ≤ 4 + k * 4 by omega)
    rw [List.take_succ_cons, List.take_succ_cons, hc, hc, ih, show (k + 1) * 4 = 4 + k * 4 by omega, List.take_append, t1, show 4 + k * 4 - (entRow e h).length = k * 4 from by show 4 + k * 4 - 4 = k * 4; omega]
/-- The first ones of them. -/
theorem OwnL.take (h : OwnL base w sp c es hs) (k : Nat) (hk : k ≤ es.length) : OwnL base w sp c (es.take k) (hs.take k) := by
  have hl : (es.take k).length = k := by rw [List.length_take]; omega
  refine ⟨by rw [List.length_take, List.length_take, h.len], ?_, fun i hi hj => ?_⟩
  · rw [hl, rowsV_take es hs k h.len]
    refine ⟨by rw [List.length_take, h.row.1]; omega, ?_⟩
    rcases h.row.2 with ⟨hv, h0⟩ | ⟨g, cap, cur, hv, hb, hg, hle, hmx, hsz, ht⟩
    · have hk0 : k = 0 := by omega
      subst hk0
      simp only [Value.slice.injEq] at hv
      obtain ⟨rfl, _, rfl⟩ := hv
      exact .inl ⟨rfl, rfl⟩
    · simp only [Value.slice.injEq] at hv
      obtain ⟨rfl, _, rfl⟩ := hv
      refine .inr ⟨g, c, cur, rfl, hb, hg, by omega, hmx, hsz, ?_⟩
      rw [← ht, List.take_take]
      congr 1
      omega
  · rw [List.getElem_take, List.getElem_take]
    exact h.dat i (by rw [List.length_take] at hi; omega) (by rw [List.length_take] at hj; omega)
theorem LFoot.take {g k : Nat} (h : LFoot sp (hs.take k) g) : LFoot sp hs g := by
  rcases h with h | ⟨x, hx, h⟩
  · exact .inl h
  · exact .inr ⟨x, List.mem_of_mem_take hx, h⟩
/-- append(l, e). -/
theorem run_appendL (hown : OwnL base w sp c es hs) (B : Nat) (e : EntN) (h : Option Addr × Nat)
    (hB : w.heap[B]? = some (.cells (entRow e h).toArray 60 (0, 0))) (hd : Bx base w h.1 h.2 e.2.2.2) (hn : es.length ≤ 1048576) (hbase : base ≤ w.heap.size) (ty : TypeId) :
    ∃ sp' c' w', (Builtin.append_ #[27, 27] ty #[.slice sp es.length c, .slice (some ⟨B, 0, none⟩) 1 1]).run Tryz.prog w = .ok (.slice sp' (es.length + 1) c') w' ∧ OwnL base w' sp' c' (es ++ [e]) (hs ++ [h]) ∧ w.grownBy w' (blk sp) ∧ (∀ g, blk sp' = some g → blk sp = some g ∨ w.heap.size ≤ g) := by
  obtain ⟨i0, hi, hz0, hz1, hz2⟩ := info_parts infoE
  obtain ⟨v', w', hrun, h1, h2, h4, h5⟩ := run_append_own_at (P := Tryz.prog) w base 27 ty 60 i0 _ 4 48 Tryz.underlying27 hi hz0 hz1 hz2 rfl (by omega) _ _ _ hown.row ⟨B, 0, none⟩ 1 1 (entRow e h) rfl
    (fun j u hu => by have := World.news_of_block hB j u; simp only at this; exact this hu) (by intro u hu; simp only [entRow, List.mem_cons, List.not_mem_nil, or_false] at hu; rcases hu with rfl | rfl | rfl | rfl <;> rfl) (by simp only [maxLen]; omega) (by omega) hbase
  have hv : ∃ sp' c', v' = .slice sp' (es.length + 1) c' := by
    rcases h1.2 with ⟨hv, h0⟩ | ⟨g, cap, cur, hv, _⟩
    · omega
    · exact ⟨_, _, hv⟩
  obtain ⟨sp', c', rfl⟩ := hv
  rw [ownBlock_slice] at h2
  rw [ownBlock_slice, ownBlock_slice] at h5
  have hrow := hown.row
  have notE : ∀ (x : Option Addr) (xc : Nat) (l : List Nat), Bx base w x xc l → ∀ g, blk x = some g → blk sp ≠ some g := fun x xc l hx g hg hsp => by
    obtain ⟨_, _, cur, hc⟩ := hx.isT g hg
    rcases hrow.2 with ⟨hv, h0⟩ | ⟨g', cap, cur', hv, _, hh, _⟩
    · simp only [Value.slice.injEq] at hv
      rw [hv.1] at hsp
      cases hsp
    · simp only [Value.slice.injEq] at hv
      rw [hv.1] at hsp
      cases hsp
      rw [hc] at hh
      simp at hh
  refine ⟨sp', c', w', hrun, ⟨by simp [hown.len], ?_, ?_⟩, h2, ?_⟩
  · rw [rowsV_snoc es hs e h hown.len, List.length_append]
    exact h1
  · intro i hi hj
    rw [List.length_append] at hi
    simp only [List.length_cons, List.length_nil] at hi
    by_cases hi' : i < es.length
    · have hj' : i < hs.length := by rw [hown.len]; exact hi'
      rw [List.getElem_append_left hi', List.getElem_append_left hj']
      exact (hown.dat i hi' hj').grownNe h2 (fun g hg e => notE _ _ _ (hown.dat i hi' hj') g hg e)
    · have hi2 : i = es.length := by omega
      have e1 : (es ++ [e])[i] = e := by rw [List.getElem_append_right (by omega)]; simp
      have e2 : (hs ++ [h])[i] = h := by rw [List.getElem_append_right (by rw [hown.len]; omega)]; simp
      rw [e1, e2]
      exact hd.grownNe h2 (fun g hg e => notE _ _ _ hd g hg e)
  · intro g hg
    rcases h5 with h5 | h5
    · exact .inl (by rw [← h5]; exact hg)
    · right
      rw [h5] at hg
      cases hg
      exact Nat.le_refl _
end
end Go.Proofs.YtijcpmbfhfppmaaGreatDoor
end
/- Regions that draw their order, walked operation by operation, with operations that are not wanted. -/
section
namespace Go.Proofs.YtijcpmbfhfppmaaGreatDoor
open Go.RowKit

section
variable {P : Program} {md : Region.Mode} {ops : Array Oper} {Q : Exit → Act → World → Prop} {S : World → Prop}
/-- An operation that is wanted and yields its value in every world that meets S. -/
theorem held_take (i : Nat) {oi : Oper} {v : Value} {fuel : Nat} {listed : Array Bool} {a : Act} {w : World} (hr : (Region.ready md ops listed).contains i = true) (hi : ops[i]? = some oi)
    (hw : Region.wanted oi (yielded ops a.tmps) = true) (hs : Region.noSelect ops = true) (hf : Region.free md ops listed i = true)
    (hQ : ∀ c a w, Q (.panic c) (a.put oi.dst v) w → Q (.panic c) a w) (hy : ∀ w, S w → (execOp a.eval oi).run P w = .ok (.value v) w) (hS : S w)
    (h : wpAnyH P md ops Q S fuel (listed.setIfInBounds i true) (a.put oi.dst v) w) : wpAnyH P md ops Q S (fuel + 1) listed a w :=
  wpAnyH_take hi hs hf hr hQ (Or.inl ⟨hw, hy⟩) hS h
/-- An operation that is not wanted. -/
theorem held_skip (i : Nat) {oi : Oper} {fuel : Nat} {listed : Array Bool} {a : Act} {w : World} (hr : (Region.ready md ops listed).contains i = true) (hi : ops[i]? = some oi)
    (hw : Region.wanted oi (yielded ops a.tmps) = false) (hs : Region.noSelect ops = true) (hf : Region.free md ops listed i = true)
    (hQ : ∀ c a w, Q (.panic c) (a.put oi.dst undef) w → Q (.panic c) a w) (hS : S w)
    (h : wpAnyH P md ops Q S fuel (listed.setIfInBounds i true) (a.put oi.dst undef) w) : wpAnyH P md ops Q S (fuel + 1) listed a w :=
  wpAnyH_take hi hs hf hr hQ (Or.inr ⟨hw, rfl⟩) hS h
/-- The one operation that may come up. -/
theorem held_one (i : Nat) {oi : Oper} {fuel : Nat} {listed : Array Bool} {a : Act} {w : World} (hr : Region.ready md ops listed = [i]) (hi : ops[i]? = some oi)
    (h : ∀ K' : Act → World → Prop, Shut (∀ a w, S w → (S w → wpAnyH P md ops Q S fuel (listed.setIfInBounds i true) a w) → K' a w) → if Region.wanted oi (yielded ops a.tmps) = true then Oper.wp P oi a w K' Q else K' (a.put oi.dst undef) w) :
    wpAnyH P md ops Q S (fuel + 1) listed a w :=
  wpAnyH_ready hr (by simp) (AllReadyH.cons hi h AllReadyH.nil)
/-- The one operation that may come up, and is not wanted. -/
theorem held_none (i : Nat) {oi : Oper} {fuel : Nat} {listed : Array Bool} {a : Act} {w : World} (hr : Region.ready md ops listed = [i]) (hi : ops[i]? = some oi)
    (hw : Region.wanted oi (yielded ops a.tmps) = false) (hS : S w)
    (h : wpAnyH P md ops Q S fuel (listed.setIfInBounds i true) (a.put oi.dst undef) w) : wpAnyH P md ops Q S (fuel + 1) listed a w :=
  held_one i hr hi (fun K' hK => by rw [hw]; exact hK.out _ _ hS (fun _ => h))
end
end Go.Proofs.YtijcpmbfhfppmaaGreatDoor
end
/- Logs: last, fits, term. -/
section
namespace Go.Proofs.YtijcpmbfhfppmaaGreatDoor
open Go.ChangeShapes Go.WideShapes Go.ChangeAt Go.RowKit
set_option linter.unusedVariables false

def ct5 (c : Wc) (ep : Option Addr) (ec : Nat) : List Value := [.int .i64 (c.bi : Int), .int .i64 (c.bt : Int), .int .i64 (c.ht : Int), .int .i64 (c.hv : Int), .slice ep c.es.length ec]
/-- A block's cells: p, then a content's five, then q. -/
def ctRow (p q : List Value) (c : Wc) (ep : Option Addr) (ec : Nat) : Array Value := (p ++ (ct5 c ep ec ++ q)).toArray
structure CtAt (w : World) (B : Nat) (T : TypeId) (p q : List Value) (c : Wc) (ep : Option Addr) (ec : Nat) : Prop where
  row : w.heap[B]? = some (.cells (ctRow p q c ep ec) T (0, 0))
section
variable {w w' : World} {B : Nat} {T : TypeId} {p q : List Value} {c : Wc} {ep : Option Addr} {ec : Nat}
theorem CtAt.lt (h : CtAt w B T p q c ep ec) : B < w.heap.size := (Array.getElem?_eq_some_iff.1 h.row).1
theorem CtAt.same (h : CtAt w B T p q c ep ec) (hk : w'.heap[B]? = w.heap[B]?) : CtAt w' B T p q c ep ec := ⟨hk.trans h.row⟩
theorem CtAt.later (h : CtAt w B T p q c ep ec) (hb : Below w.heap.size w w') : CtAt w' B T p q c ep ec := h.same (hb.block B h.lt)
theorem ct_get (p q : List Value) (c : Wc) (ep : Option Addr) (ec f : Nat) (v : Value) (hf : f < 5) (hv : (ct5 c ep ec)[f]? = some v) : (ctRow p q c ep ec)[p.length + f]? = some v := by
  unfold ctRow
  rw [← Array.getElem?_toList, List.getElem?_append_right (by omega), show p.length + f - p.length = f by omega, List.getElem?_append_left (show f < 5 from hf)]
  exact hv
theorem CtAt.cells (h : CtAt w B T p q c ep ec) (o : Nat) (ho : p.length = o) : (w.cell? ⟨B, o, none⟩ = some (.int .i64 (c.bi : Int)) ∧ w.cell? ⟨B, o + 1, none⟩ = some (.int .i64 (c.bt : Int)) ∧ w.cell? ⟨B, o + 2, none⟩ = some (.int .i64 (c.ht : Int)) ∧ w.cell? ⟨B, o + 3, none⟩ = some (.int .i64 (c.hv : Int)) ∧ w.cell? ⟨B, o + 4, none⟩ = some (.slice ep c.es.length ec)) ∧ ∀ i, w.frozen? ⟨B, i, none⟩ = false := by
  subst ho
  have one : ∀ f v, f < 5 → (ct5 c ep ec)[f]? = some v → w.cell? ⟨B, p.length + f, none⟩ = some v := fun f v hf hv => by
    rw [cell_of_row _ _ _ _ _ _ h.row]
    exact ct_get p q c ep ec f v hf hv
  exact ⟨⟨one 0 _ (by omega) rfl, one 1 _ (by omega) rfl, one 2 _ (by omega) rfl, one 3 _ (by omega) rfl, one 4 _ (by omega) rfl⟩, fun i => froz_of h.row i⟩
/-- A new value in one of its cells. -/
theorem CtAt.set (h : CtAt w B T p q c ep ec) (o f : Nat) (ho : p.length = o) (c' : Wc) (ep' : Option Addr) (ec' : Nat) (v : Value)
    (hv : (ct5 c ep ec).set f v = ct5 c' ep' ec') (hf : f < 5) : CtAt (w.setCell ⟨B, o + f, none⟩ v) B T p q c' ep' ec' := by
  subst ho
  refine ⟨?_⟩
  rw [heap_setCell_same w B (p.length + f) _ T v h.row]
  congr 2
  unfold ctRow
  rw [List.setIfInBounds_toArray, List.set_append_right _ _ (by omega), show p.length + f - p.length = f by omega, List.set_append_left _ _ (show f < 5 from hf), hv]
set_option maxRecDepth 20000 in
set_option maxHeartbeats 4000000 in
theorem last_calls (h : CtAt w B T p q c ep ec) (o : Nat) (ho : p.length = o) (hb : c.bi ≤ 1099511627776) (hl : c.es.length ≤ 1099511627776) :
    Calls Tryz.prog 83 #[.pointer (some ⟨B, o, none⟩)] w fun e w' => e = .returned (.int .i64 ((c.bi + c.es.length : Nat) : Int)) ∧ Below w.heap.size w w' := by
  obtain ⟨⟨c0, _, _, _, c4⟩, _⟩ := h.cells o ho
  have BD := hide (show ∀ k, Below w.heap.size w (w.drewN k) from fun k => ⟨rfl, rfl, rfl, Nat.le_refl _, fun _ _ => rfl⟩)
  clear h ho
  generalize c.es.length = n at *
  generalize c.bi = bi at *
  go_enter Tryz.func83, Tryz.ntmps83
  go_wp2_with fail
  go_quiet (fail)
  go_wp2
  go_ret
  exact ⟨by congr 2, unhide BD _⟩
/-- May an entry of that index be added? -/
def fitsW (c : Wc) (i : Int) : Bool := decide ((c.bi : Int) < i) && decide (i ≤ ((c.bi + c.es.length : Nat) : Int) + 1)
set_option maxRecDepth 20000 in
set_option maxHeartbeats 4000000 in
theorem fits_calls (h : CtAt w B T p q c ep ec) (o : Nat) (ho : p.length = o) (hb : c.bi ≤ 1099511627776) (hl : c.es.length ≤ 1099511627776) (i : Int) :
    Calls Tryz.prog 105 #[.pointer (some ⟨B, o, none⟩), .int .i64 i] w fun e w' => e = .returned (.bool (fitsW c i)) ∧ Below w.heap.size w w' := by
  obtain ⟨⟨c0, _, _, _, c4⟩, _⟩ := h.cells o ho
  have LC := hide (last_calls h o ho hb hl)
  have FE := hide (show fitsW c i = (decide ((c.bi : Int) < i) && decide (i ≤ ((c.bi + c.es.length : Nat) : Int) + 1)) from rfl)
  have hs : ((c.bi + c.es.length : Nat) : Int) + 1 ≤ 9223372036854775807 := by omega
  have hs0 : (0 : Int) ≤ ((c.bi + c.es.length : Nat) : Int) := by omega
  clear h ho
  generalize ((c.bi + c.es.length : Nat) : Int) = la at *
  generalize fitsW c i = fw at *
  generalize c.es.length = n at *
  generalize c.bi = bi at *
  by_cases h1 : (bi : Int) < i
  · have FW := hide (show fw = decide (i ≤ la + 1) by rw [unhide FE, decide_eq_true h1, Bool.true_and])
    go_enter Tryz.func105, Tryz.ntmps105
    go_wp2_with fail
    go_at_call 83
    refine (unhide LC).mono ?_
    rintro e V ⟨rfl, v1⟩
    have B1 := hide v1
    clear v1
    go_wp2
    go_ret
    exact ⟨by rw [unhide FW]; rfl, unhide B1⟩
  · have FW := hide (show fw = false by rw [unhide FE, decide_eq_false h1]; rfl)
    have B0 := hide (Below.refl w.heap.size w)
    go_enter Tryz.func105, Tryz.ntmps105
    go_wp2
    go_ret
    exact ⟨by rw [unhide FW]; rfl, unhide B0⟩
/-- The term at an index. -/
def termW (c : Wc) (i : Int) : Int × Bool := if i = (c.bi : Int) then ((c.bt : Int), true) else if (c.bi : Int) < i ∧ i ≤ ((c.bi + c.es.length : Nat) : Int) then (((c.es.getD (i - (c.bi : Int) - 1).toNat default).2.1 : Int), true) else (0, false)
set_option maxRecDepth 20000 in
set_option maxHeartbeats 4000000 in
theorem term_calls (h : CtAt w B T p q c ep ec) (o : Nat) (ho : p.length = o) (hb : c.bi ≤ 1099511627776) (hl : c.es.length ≤ 1099511627776) {base : Nat} {hs : List (Option Addr × Nat)} (hE : OwnL base w ep ec c.es hs) (i : Int) (hi : -9223372036854775808 ≤ i ∧ i ≤ 9223372036854775807) :
    Calls Tryz.prog 58 #[.pointer (some ⟨B, o, none⟩), .int .i64 i] w fun e w' => e = .returned (.tuple #[.int .i64 (termW c i).1, .bool (termW c i).2]) ∧ Below w.heap.size w w' := by
  obtain ⟨⟨c0, c1, _, _, c4⟩, _⟩ := h.cells o ho
  have LC := hide (last_calls h o ho hb hl)
  have HC := hide h
  have EA := hide hE.ents
  have FE := hide (show termW c i = (if i = (c.bi : Int) then ((c.bt : Int), true) else if (c.bi : Int) < i ∧ i ≤ ((c.bi + c.es.length : Nat) : Int) then (((c.es.getD (i - (c.bi : Int) - 1).toNat default).2.1 : Int), true) else (0, false)) from rfl)
  have hs : ((c.bi + c.es.length : Nat) : Int) ≤ 4398046511104 := by omega
  generalize termW c i = tw at *
  clear h hE
  by_cases h1 : i = (c.bi : Int)
  · have FW := hide (show tw = ((c.bt : Int), true) by rw [unhide FE, if_pos h1])
    have B0 := hide (Below.refl w.heap.size w)
    have hb1 : (i == (c.bi : Int)) = true := by simp [h1]
    generalize c.bi = bi at *
    generalize c.bt = bt at *
    generalize c.es.length = n at *
    go_enter Tryz.func58, Tryz.ntmps58
    go_wp2
    go_ret2
    exact ⟨by rw [unhide FW]; rfl, unhide B0⟩
  · have hb1 : (i == (c.bi : Int)) = false := by simp [h1]
    by_cases h2 : i < (c.bi : Int)
    · have FW := hide (show tw = (0, false) by rw [unhide FE, if_neg h1, if_neg (by omega)])
      have B0 := hide (Below.refl w.heap.size w)
      generalize c.bi = bi at *
      generalize c.bt = bt at *
      generalize c.es.length = n at *
      go_enter Tryz.func58, Tryz.ntmps58
      go_wp2
      go_ret2
      exact ⟨by rw [unhide FW]; rfl, unhide B0⟩
    · by_cases h3 : ((c.bi + c.es.length : Nat) : Int) < i
      · have FW := hide (show tw = (0, false) by rw [unhide FE, if_neg h1, if_neg (by omega)])
        generalize ((c.bi + c.es.length : Nat) : Int) = la at *
        generalize c.bi = bi at *
        generalize c.bt = bt at *
        generalize c.es.length = n at *
        go_enter Tryz.func58, Tryz.ntmps58
        go_wp2_with fail
        go_at_call 83
        refine (unhide LC).mono ?_
        rintro e V ⟨rfl, v1⟩
        have B1 := hide v1
        clear v1
        go_wp2
        go_ret2
        exact ⟨by rw [unhide FW]; rfl, unhide B1⟩
      · obtain ⟨k, hk⟩ : ∃ k : Nat, i = (c.bi : Int) + 1 + k := ⟨(i - (c.bi : Int) - 1).toNat, by omega⟩
        have hkl : k < c.es.length := by omega
        have FW := hide (show tw = (((c.es[k]).2.1 : Int), true) by
          rw [unhide FE, if_neg h1, if_pos ⟨by omega, by omega⟩, show (i - (c.bi : Int) - 1).toNat = k by omega, List.getD_eq_getElem?_getD, List.getElem?_eq_getElem hkl]
          rfl)
        obtain ⟨b, off, dp, dc, rfl, q0, q1, qr⟩ := (unhide EA).cell k (by rw [List.length_map]; exact hkl)
        have hm : (c.es.map toI)[k]'(by rw [List.length_map]; exact hkl) = toI c.es[k] := by simp
        rw [hm] at q1
        clear q0 qr hm EA HC FE
        have q1 : w.cell? ⟨b, off + k * 4 + 1, none⟩ = some (.int .i64 ((c.es[k]).2.1 : Int)) := q1
        have hk0 : (0 : Int) ≤ (k : Int) := by omega
        have hk1 : (k : Int) < (c.es.length : Int) := by omega
        have hik : IntKind.i64.wrap (IntKind.i64.wrap (i - (c.bi : Int)) - 1) = (k : Int) := by
          rw [IntKind.wrap_i64, IntKind.wrap_i64]
          omega
        have h2' : ¬ i < (c.bi : Int) := by omega
        have h3' : ¬ ((c.bi + c.es.length : Nat) : Int) < i := by omega
        have HK := hide hk
        clear hk
        generalize c.es[k] = ek at *
        clear hkl
        generalize ((c.bi + c.es.length : Nat) : Int) = la at *
        generalize c.bi = bi at *
        generalize c.bt = bt at *
        generalize c.es.length = n at *
        go_enter Tryz.func58, Tryz.ntmps58
        go_wp2_with fail
        go_at_call 83
        refine (unhide LC).mono ?_
        rintro e V ⟨rfl, v1⟩
        have d0 := cell_later v1 c0
        have d4 := cell_later v1 c4
        have r1 := cell_later v1 q1
        have B1 := hide v1
        have BD := hide (show ∀ k, Below w.heap.size w (V.drewN k) from fun k => ⟨v1.os, v1.tape, v1.output, v1.size, v1.block⟩)
        clear v1 c0 c1 c4 q1
        go_wp2_with fail
        go_quiet (fail)
        go_wp2
        go_ret2
        exact ⟨by rw [unhide FW]; rfl, unhide BD _⟩
end
end Go.Proofs.YtijcpmbfhfppmaaGreatDoor
end
