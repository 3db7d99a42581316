/- Disk: what a file is by its changes; a disk in memory. -/
import Derived.Test.YtijcpmbfhfppmaaGreatDoorDka
namespace Go.Proofs.YtijcpmbfhfppmaaGreatDoor
open Go.ChangeShapes Go.WideShapes Go.ChangeAt Go.RowKit Go.Maps

/-- A file by the document: whether something lasts, what lasts, the changes since. -/
structure Sp where
  la : Bool
  y : List Nat
  cs : List Chg
def nowC : List Chg → List Nat → List Nat
  | [], y => y
  | c :: cs, y => nowC cs (ontoC c y (unitsC c))
def Sp.now (s : Sp) : List Nat := nowC s.cs s.y
def Fil.sp (f : Fil) : Sp := ⟨f.la, f.y, f.xs.map (·.1)⟩
theorem nowC_snoc (c : Chg) : ∀ (cs : List Chg) (y : List Nat), nowC (cs ++ [c]) y = ontoC c (nowC cs y) (unitsC c)
  | [], _ => rfl
  | x :: cs, y => by simp only [List.cons_append, nowC]; exact nowC_snoc c cs _
theorem fitsC_snoc (c : Chg) : ∀ (cs : List Chg) (y : List Nat), fitsC cs y → c.2.1 ≤ (nowC cs y).length → (nowC cs y).length + c.2.2.length ≤ 140737488355328 → fitsC (cs ++ [c]) y
  | [], _, _, h1, h2 => ⟨h1, h2, trivial⟩
  | _ :: cs, _, h, h1, h2 => ⟨h.1, h.2.1, fitsC_snoc c cs _ h.2.2 h1 h2⟩
def smallC (c : Chg) : Prop := (c.1 = false → c.2.1 + c.2.2.length ≤ 262144 ∧ 0 < c.2.2.length) ∧ (c.1 = true → c.2.2 = [])
theorem ontoC_small (c : Chg) (y : List Nat) (u : Nat) (hk : c.2.1 ≤ y.length) (hs : smallC c) (hy : y.length ≤ 262144) : (ontoC c y u).length ≤ 262144 := by
  unfold ontoC
  split
  · rw [List.length_take]; omega
  · rename_i h
    have := (hs.1 (by simpa using h)).1
    rw [overL_length _ _ _ hk, List.length_take]; omega
theorem crashL_small : ∀ (cs : List Chg) (y : List Nat) (n : Nat), fitsC cs y → (∀ c ∈ cs, smallC c) → y.length ≤ 262144 → (crashL cs y n).1.length ≤ 262144
  | [], _, _, _, _, h => h
  | c :: cs, y, n, hf, hs, hy => by
    unfold crashL
    split
    · exact hy
    · have h1 := ontoC_small c y (min n (unitsC c)) hf.1 (hs c List.mem_cons_self) hy
      by_cases h2 : n ≤ unitsC c
      · rw [show n - min n (unitsC c) = 0 by omega, crashL_zero]
        exact h1
      · rw [show min n (unitsC c) = unitsC c by omega] at h1 ⊢
        exact crashL_small cs _ _ hf.2.2 (fun x hx => hs x (List.mem_cons_of_mem _ hx)) h1
theorem crashL_lt : ∀ (cs : List Chg) (y : List Nat) (n : Nat), (∀ c ∈ cs, ∀ b ∈ c.2.2, b < 256) → (∀ b ∈ y, b < 256) → ∀ b ∈ (crashL cs y n).1, b < 256
  | [], _, _, _, h => h
  | c :: cs, y, n, hc, hy => by
    unfold crashL
    split
    · exact hy
    · refine crashL_lt cs _ _ (fun x hx => hc x (List.mem_cons_of_mem _ hx)) (fun b hb => ?_)
      unfold ontoC at hb
      split at hb
      · exact hy b (List.mem_of_mem_take hb)
      · exact overL_lt _ hy (fun b hb => hc c List.mem_cons_self b (List.mem_of_mem_take hb)) b hb
/-- A file that the calls have made, of at most N changes. -/
structure FOk (N : Nat) (f : Fil) : Prop where
  now : f.b = f.sp.now
  fit : fitsC f.sp.cs f.y
  small : ∀ c ∈ f.sp.cs, smallC c
  y8 : f.y.length ≤ 262144
  b8 : f.b.length ≤ 262144
  few : f.xs.length ≤ N
  gone : f.la = false → f.y = []
def fil0 : Fil := ⟨none, 0, [], none, 0, [], false, none, 0, []⟩
theorem FOk.zero (N : Nat) : FOk N fil0 := ⟨rfl, trivial, by simp [fil0, Fil.sp], by simp [fil0], by simp [fil0], by simp [fil0], fun _ => rfl⟩
theorem FOk.mono {N M : Nat} {f : Fil} (h : FOk N f) (hm : N ≤ M) : FOk M f := ⟨h.now, h.fit, h.small, h.y8, h.b8, Nat.le_trans h.few hm, h.gone⟩
theorem FOk.write {N : Nat} {f : Fil} (h : FOk N f) (k : Nat) (hk : k ≤ f.b.length) (o : List Nat) (ho : 0 < o.length) (hm : k + o.length ≤ 262144) (bp : Option Addr) (bc : Nat) (cp : Option Addr) (cc : Nat) (hd : Option Addr × Nat) :
    FOk (N + 1) ((f.over bp bc (overL f.b k o)).more cp cc ((false, k, o), hd)) := by
  have hn : f.b = nowC f.sp.cs f.y := h.now
  have hc : ((f.over bp bc (overL f.b k o)).more cp cc ((false, k, o), hd)).sp.cs = f.sp.cs ++ [(false, k, o)] := by simp [Fil.sp, Fil.more, Fil.over]
  have hb8 : (overL f.b k o).length ≤ 262144 := by rw [overL_length _ _ _ hk]; have := h.b8; omega
  refine ⟨?_, ?_, ?_, h.y8, hb8, ?_, h.gone⟩
  · show overL f.b k o = nowC _ f.y
    rw [hc, nowC_snoc, ← hn]
    simp [ontoC, unitsC]
  · rw [hc]
    refine fitsC_snoc _ _ _ h.fit ?_ ?_
    · show k ≤ (nowC f.sp.cs f.y).length
      rw [← hn]; exact hk
    · show (nowC f.sp.cs f.y).length + o.length ≤ _
      rw [← hn]; have := h.b8; omega
  · rw [hc]
    intro c hcm
    rcases List.mem_append.1 hcm with hcm | hcm
    · exact h.small c hcm
    · obtain rfl : c = (false, k, o) := by simpa using hcm
      exact ⟨fun _ => ⟨hm, ho⟩, fun e => by cases e⟩
  · simp only [Fil.more, Fil.over, List.length_append, List.length_cons, List.length_nil]
    have := h.few
    omega
theorem FOk.over0 {N : Nat} {f : Fil} (h : FOk N f) (k : Nat) (bp : Option Addr) (bc : Nat) : FOk N (f.over bp bc (overL f.b k [])) := by
  rw [overL_nil]
  exact ⟨h.now, h.fit, h.small, h.y8, h.b8, h.few, h.gone⟩
theorem FOk.cut {N : Nat} {f : Fil} (h : FOk N f) (k : Nat) (hk : k ≤ f.b.length) (cp : Option Addr) (cc : Nat) : FOk (N + 1) ((f.shorter k).more cp cc ((true, k, []), (none, 0))) := by
  have hn : f.b = nowC f.sp.cs f.y := h.now
  have hc : ((f.shorter k).more cp cc ((true, k, []), (none, 0))).sp.cs = f.sp.cs ++ [(true, k, [])] := by simp [Fil.sp, Fil.more, Fil.shorter]
  refine ⟨?_, ?_, ?_, h.y8, ?_, ?_, h.gone⟩
  · show f.b.take k = nowC _ f.y
    rw [hc, nowC_snoc, ← hn]
    simp [ontoC]
  · rw [hc]
    refine fitsC_snoc _ _ _ h.fit ?_ ?_
    · show k ≤ (nowC f.sp.cs f.y).length
      rw [← hn]; exact hk
    · show (nowC f.sp.cs f.y).length + 0 ≤ _
      rw [← hn]; have := h.b8; omega
  · rw [hc]
    intro c hcm
    rcases List.mem_append.1 hcm with hcm | hcm
    · exact h.small c hcm
    · obtain rfl : c = (true, k, []) := by simpa using hcm
      exact ⟨fun e => (by cases e), fun _ => rfl⟩
  · show (f.b.take k).length ≤ _
    rw [List.length_take]; have := h.b8; omega
  · simp only [Fil.more, Fil.shorter, List.length_append, List.length_cons, List.length_nil]
    have := h.few
    omega
theorem FOk.synced {N : Nat} {f : Fil} (h : FOk N f) (yp : Option Addr) : FOk N (f.synced yp) :=
  ⟨rfl, trivial, by simp [Fil.synced, Fil.sp], h.b8, h.b8, by simp [Fil.synced], fun e => by cases e⟩
theorem FOk.crashed {N : Nat} {f g : Fil} (h : FOk N f) (U : Nat) (hb : g.b = (crashL f.sp.cs f.y U).1) (hy : g.y = (crashL f.sp.cs f.y U).1) (hl : g.la = true) (hx : g.xs = []) : FOk N g := by
  have h8 := crashL_small f.sp.cs f.y U h.fit h.small h.y8
  refine ⟨?_, ?_, ?_, by rw [hy]; exact h8, by rw [hb]; exact h8, by simp [hx], fun e => by rw [hl] at e; cases e⟩
  · simp [Sp.now, Fil.sp, hx, nowC, hb, hy]
  · simp [Fil.sp, hx, fitsC]
  · simp [Fil.sp, hx]
theorem FileAt.mut_lt {base : Nat} {w : World} {F : Nat} {f : Fil} (h : FileAt base w F f) {g : Nat} (hg : f.mut F g) : base ≤ g ∧ g < w.heap.size := by
  rcases hg with rfl | hg | hg | hg
  · exact ⟨h.low, h.ltF⟩
  · exact ⟨(h.bytes.isT g hg).1, (h.bytes.isT g hg).2.1⟩
  · exact ⟨(h.sure.isT g hg).1, (h.sure.isT g hg).2.1⟩
  · exact ⟨(h.chs.blk_is g hg).1, (h.chs.blk_is g hg).2.1⟩
theorem FileAt.red_lt {base : Nat} {w : World} {F : Nat} {f : Fil} (h : FileAt base w F f) {g : Nat} (hg : f.red g) : 0 ≤ g ∧ g < w.heap.size ∧ ∃ cur : Array Value, w.heap[g]? = some (.cells cur 5 (0, 0)) := by
  obtain ⟨x, hx, hg⟩ := hg
  exact (h.chs.dat x hx).isT g hg
/-- Which kinds of blocks a file lies in. -/
theorem FileAt.mut_is {base : Nat} {w : World} {F : Nat} {f : Fil} (h : FileAt base w F f) {g : Nat} (hg : f.mut F g) : ∃ (cur : Array Value) (T : TypeId), w.heap[g]? = some (.cells cur T (0, 0)) ∧ (T = 118 ∨ T = 5 ∨ T = 152) := by
  rcases hg with rfl | hg | hg | hg
  · exact ⟨_, _, h.box, .inl rfl⟩
  · obtain ⟨_, _, cur, hc⟩ := h.bytes.isT g hg
    exact ⟨_, _, hc, .inr (.inl rfl)⟩
  · obtain ⟨_, _, cur, hc⟩ := h.sure.isT g hg
    exact ⟨_, _, hc, .inr (.inl rfl)⟩
  · obtain ⟨_, _, cur, hc⟩ := h.chs.blk_is g hg
    exact ⟨_, _, hc, .inr (.inr rfl)⟩
theorem FileAt.self {base : Nat} {w : World} {F : Nat} {f : Fil} (h : FileAt base w F f) {g : Nat} (hm : f.mut F g) : ¬ f.red g := by
  intro hr
  obtain ⟨_, _, cur, hc⟩ := h.red_lt hr
  obtain ⟨x, hx, hg⟩ := hr
  rcases hm with rfl | hm | hm | hm
  · rw [h.box] at hc; simp at hc
  · exact (h.far x hx g hg).1 hm
  · exact (h.far x hx g hg).2 hm
  · obtain ⟨_, _, cur2, hc2⟩ := h.chs.blk_is g hm
    rw [hc2] at hc; simp at hc
theorem Bx.same {base : Nat} {w w' : World} {sp : Option Addr} {c : Nat} {l : List Nat} (h : Bx base w sp c l) (hs : ∀ g, blk sp = some g → w'.heap[g]? = w.heap[g]?) : Bx base w' sp c l := by
  refine ⟨h.lt, ?_⟩
  rcases h.row with hv | ⟨g, cur, h1, hb, hh, r⟩
  · exact .inl hv
  · exact .inr ⟨g, cur, h1, hb, (hs g (by rw [h1]; rfl)).trans hh, r⟩
theorem OwnC.same {base : Nat} {w w' : World} {sp : Option Addr} {c : Nat} {xs : List ChH} (h : OwnC base w sp c xs) (hs : ∀ g, blk sp = some g → w'.heap[g]? = w.heap[g]?) (hd : ∀ x ∈ xs, ∀ g, blk x.2.1 = some g → w'.heap[g]? = w.heap[g]?) : OwnC base w' sp c xs := by
  refine ⟨⟨h.row.1, ?_⟩, fun x hx => (h.dat x hx).same (hd x hx)⟩
  rcases h.row.2 with hv | ⟨g, cap, cur, hv, hb, hg, r⟩
  · exact .inl hv
  · refine .inr ⟨g, cap, cur, hv, hb, (hs g ?_).trans hg, r⟩
    simp only [Value.slice.injEq] at hv
    rw [hv.1]; rfl
theorem FileAt.same {base : Nat} {w w' : World} {F : Nat} {f : Fil} (h : FileAt base w F f) (hs : ∀ g, f.mut F g ∨ f.red g → w'.heap[g]? = w.heap[g]?) : FileAt base w' F f :=
  ⟨(hs F (.inl (.inl rfl))).trans h.box, h.bytes.same (fun g hg => hs g (.inl (.inr (.inl hg)))), h.sure.same (fun g hg => hs g (.inl (.inr (.inr (.inl hg))))),
    h.chs.same (fun g hg => hs g (.inl (.inr (.inr (.inr hg))))) (fun x hx g hg => hs g (.inr ⟨x, hx, hg⟩)), h.low, h.apart, h.far⟩
/-- A disk in memory: its block, its map's, its room, its files by their names. -/
abbrev Fe := Nm × Nat × Fil
def Fe.mut (x : Fe) (g : Nat) : Prop := x.2.2.mut x.2.1 g
def Fe.red (x : Fe) (g : Nat) : Prop := x.2.2.red g
abbrev ptrs (fs : List Fe) : List (Nm × Nat) := fs.map (fun x => (x.1, x.2.1))
abbrev sps (fs : List Fe) : List (Nm × Sp) := fs.map (fun x => (x.1, x.2.2.sp))
structure DiskAt (base : Nat) (w : World) (d M room N : Nat) (fs : List Fe) : Prop where
  box : w.heap[d]? = some (.cells #[.int .i64 (room : Int), .map (some M)] 101 (0, 0))
  map : MapAt w M (ptrs fs)
  rise : Rises fs
  file : ∀ x ∈ fs, FileAt base w x.2.1 x.2.2
  ok : ∀ x ∈ fs, FOk N x.2.2
  lowD : base ≤ d
  lowM : base ≤ M
  ap : ∀ x ∈ fs, ∀ y ∈ fs, x.1 ≠ y.1 → ∀ g, x.mut g → ¬ y.mut g
  rd : ∀ x ∈ fs, ∀ y ∈ fs, ∀ g, x.mut g → ¬ y.red g
  few : fs.length ≤ 16
  names : ∀ x ∈ fs, x.1.length ≤ 64
/-- The blocks that calls on a disk may write to, and those that they only read. -/
def DMut (d M : Nat) (fs : List Fe) (g : Nat) : Prop := g = d ∨ g = M ∨ ∃ x ∈ fs, x.mut g
def DRed (fs : List Fe) (g : Nat) : Prop := ∃ x ∈ fs, x.red g
structure DGrew (d M : Nat) (w : World) (fs : List Fe) (w' : World) (fs' : List Fe) : Prop where
  os : w'.os = w.os
  tape : w'.tape = w.tape
  output : w'.output = w.output
  size : w.heap.size ≤ w'.heap.size
  block : ∀ i, i < w.heap.size → ¬ DMut d M fs i → w'.heap[i]? = w.heap[i]?
  muts : ∀ g, DMut d M fs' g → DMut d M fs g ∨ w.heap.size ≤ g
  reds : ∀ g, DRed fs' g → DRed fs g ∨ w.heap.size ≤ g
section
variable {base d M room N : Nat} {w w' : World} {fs fs' fs2 : List Fe}
theorem DGrew.refl : DGrew d M w fs w fs := ⟨rfl, rfl, rfl, Nat.le_refl _, fun _ _ _ => rfl, fun _ h => .inl h, fun _ h => .inl h⟩
theorem DGrew.trans {w2 : World} (h : DGrew d M w fs w' fs') (k : DGrew d M w' fs' w2 fs2) : DGrew d M w fs w2 fs2 := by
  refine ⟨k.os.trans h.os, k.tape.trans h.tape, k.output.trans h.output, Nat.le_trans h.size k.size, fun i hi hn => ?_, fun g hg => ?_, fun g hg => ?_⟩
  · refine (k.block i (Nat.lt_of_lt_of_le hi h.size) (fun hm => ?_)).trans (h.block i hi hn)
    rcases h.muts i hm with h1 | h1
    · exact hn h1
    · omega
  · rcases k.muts g hg with h1 | h1
    · exact h.muts g h1
    · exact .inr (Nat.le_trans h.size h1)
  · rcases k.reds g hg with h1 | h1
    · exact h.reds g h1
    · exact .inr (Nat.le_trans h.size h1)
theorem DGrew.ofBelow (hb : Below w.heap.size w w') : DGrew d M w fs w' fs := ⟨hb.os, hb.tape, hb.output, hb.size, fun i hi _ => hb.block i hi, fun _ h => .inl h, fun _ h => .inl h⟩
theorem DiskAt.ltD (h : DiskAt base w d M room N fs) : d < w.heap.size := (Array.getElem?_eq_some_iff.1 h.box).1
theorem DiskAt.mut_lt (h : DiskAt base w d M room N fs) {g : Nat} (hg : DMut d M fs g) : base ≤ g ∧ g < w.heap.size := by
  rcases hg with rfl | rfl | ⟨x, hx, hg⟩
  · exact ⟨h.lowD, h.ltD⟩
  · exact ⟨h.lowM, h.map.lt⟩
  · exact (h.file x hx).mut_lt hg
theorem DiskAt.red_lt (h : DiskAt base w d M room N fs) {g : Nat} (hg : DRed fs g) : 0 ≤ g ∧ g < w.heap.size := by
  obtain ⟨x, hx, hg⟩ := hg
  exact ⟨((h.file x hx).red_lt hg).1, ((h.file x hx).red_lt hg).2.1⟩
/-- Its own block and its map's lie in no file. -/
theorem DiskAt.dm (h : DiskAt base w d M room N fs) : d ≠ M := by
  intro e
  obtain ⟨es, k, hm⟩ := h.map.isMap
  rw [← e, h.box] at hm
  simp at hm
theorem DiskAt.notD (h : DiskAt base w d M room N fs) {x : Fe} (hx : x ∈ fs) : ¬ x.mut d ∧ ¬ x.red d := by
  constructor
  · intro hm
    obtain ⟨cur, T, hc, hT⟩ := (h.file x hx).mut_is hm
    rw [h.box] at hc
    simp only [Option.some.injEq, Obj.cells.injEq] at hc
    rw [← hc.2.1] at hT
    exact absurd hT (by decide)
  · intro hm
    obtain ⟨_, _, cur, hc⟩ := (h.file x hx).red_lt hm
    rw [h.box] at hc
    simp at hc
theorem DiskAt.notM (h : DiskAt base w d M room N fs) {x : Fe} (hx : x ∈ fs) : ¬ x.mut M ∧ ¬ x.red M := by
  obtain ⟨es, k, hm0⟩ := h.map.isMap
  constructor
  · intro hm
    obtain ⟨cur, T, hc, hT⟩ := (h.file x hx).mut_is hm
    rw [hm0] at hc
    simp at hc
  · intro hm
    obtain ⟨_, _, cur, hc⟩ := (h.file x hx).red_lt hm
    rw [hm0] at hc
    simp at hc
theorem DiskAt.same (h : DiskAt base w d M room N fs) (hs : ∀ g, g < w.heap.size → DMut d M fs g ∨ DRed fs g → w'.heap[g]? = w.heap[g]?) : DiskAt base w' d M room N fs :=
  ⟨(hs d h.ltD (.inl (.inl rfl))).trans h.box, h.map.same (hs M h.map.lt (.inl (.inr (.inl rfl)))), h.rise, fun x hx => (h.file x hx).same (fun g hg => by
    rcases hg with hg | hg
    · exact hs g ((h.file x hx).mut_lt hg).2 (.inl (.inr (.inr ⟨x, hx, hg⟩)))
    · exact hs g ((h.file x hx).red_lt hg).2.1 (.inr ⟨x, hx, hg⟩)), h.ok, h.lowD, h.lowM, h.ap, h.rd, h.few, h.names⟩
theorem DiskAt.later (h : DiskAt base w d M room N fs) (hb : Below w.heap.size w w') : DiskAt base w' d M room N fs := h.same (fun g hg _ => hb.block g hg)
theorem DiskAt.mono {N' : Nat} (h : DiskAt base w d M room N fs) (hN : N ≤ N') : DiskAt base w d M room N' fs :=
  ⟨h.box, h.map, h.rise, h.file, fun x hx => (h.ok x hx).mono hN, h.lowD, h.lowM, h.ap, h.rd, h.few, h.names⟩
theorem putF_same {α : Type} {k : Nm} {v : α} : ∀ {fs : List (Nm × α)}, Rises fs → (k, v) ∈ fs → putF k v fs = fs
  | [], _, h => by simp at h
  | x :: r, h, hm => by
    have h1 := List.pairwise_cons.1 h
    unfold putF
    rcases List.mem_cons.1 hm with rfl | hm
    · rw [if_neg (nm_irrefl _), if_pos rfl]
    · rw [if_pos (h1.1 _ hm), putF_same h1.2 hm]
/-- One file has changed, or a new one stands there (by its own call alone): the map has it already. -/
theorem DiskAt.upd (h : DiskAt base w d M room N fs) {x : Fe} (hx : x ∈ fs) {f' : Fil} {N' : Nat} (hf : FileAt base w' x.2.1 f') (hg : FGrew x.2.1 w x.2.2 w' f') (hok : FOk N' f') (hN : N ≤ N') :
    DiskAt base w' d M room N' (putF x.1 (x.2.1, f') fs) ∧ DGrew d M w fs w' (putF x.1 (x.2.1, f') fs) := by
  have hmem := fun (y : Fe) => mem_putF (k := x.1) (v := (x.2.1, f')) h.rise y
  have hnew : ∀ g, f'.mut x.2.1 g → x.mut g ∨ w.heap.size ≤ g := hg.muts
  have hnewr : ∀ g, f'.red g → x.red g ∨ w.heap.size ≤ g := hg.reds
  have hout : ∀ y ∈ fs, y.1 ≠ x.1 → ∀ g, y.mut g ∨ y.red g → w'.heap[g]? = w.heap[g]? := by
    intro y hy hne g hyg
    refine hg.block g ?_ (fun hm => ?_)
    · rcases hyg with h1 | h1
      · exact ((h.file y hy).mut_lt h1).2
      · exact ((h.file y hy).red_lt h1).2.1
    · rcases hyg with h1 | h1
      · exact h.ap y hy x hx hne g h1 hm
      · exact h.rd x hx y hy g hm h1
  have hptr : ptrs (putF x.1 (x.2.1, f') fs) = ptrs fs := by
    show (putF x.1 (x.2.1, f') fs).map (fun y => (y.1, (fun z : Nat × Fil => z.1) y.2)) = _
    rw [putF_map]
    exact putF_same (h.rise.map _) (List.mem_map.2 ⟨x, hx, rfl⟩)
  have hkin : x.1 ∈ fs.map (·.1) := List.mem_map.2 ⟨x, hx, rfl⟩
  refine ⟨⟨(hg.block d h.ltD (h.notD hx).1).trans h.box, ?_, h.rise.put _ _, ?_, ?_, h.lowD, h.lowM, ?_, ?_, ?_, ?_⟩, ⟨hg.os, hg.tape, hg.output, hg.size, fun i hi hn => hg.block i hi (fun hm => hn (.inr (.inr ⟨x, hx, hm⟩))), ?_, ?_⟩⟩
  · rw [hptr]
    exact h.map.same (hg.block M h.map.lt (h.notM hx).1)
  · intro y hy
    rcases (hmem y).1 hy with rfl | ⟨hy, hne⟩
    · exact hf
    · exact (h.file y hy).same (fun g hgy => hout y hy hne g hgy)
  · intro y hy
    rcases (hmem y).1 hy with rfl | ⟨hy, hne⟩
    · exact hok
    · exact (h.ok y hy).mono hN
  · intro y hy z hz hne g hyg hzg
    rcases (hmem y).1 hy with rfl | ⟨hy, hye⟩ <;> rcases (hmem z).1 hz with rfl | ⟨hz, hze⟩
    · exact hne rfl
    · rcases hnew g hyg with h1 | h1
      · exact h.ap x hx z hz (fun e => hze e.symm) g h1 hzg
      · have := ((h.file z hz).mut_lt hzg).2; omega
    · rcases hnew g hzg with h1 | h1
      · exact h.ap y hy x hx hye g hyg h1
      · have := ((h.file y hy).mut_lt hyg).2; omega
    · exact h.ap y hy z hz hne g hyg hzg
  · intro y hy z hz g hyg hzg
    rcases (hmem y).1 hy with rfl | ⟨hy, hye⟩ <;> rcases (hmem z).1 hz with rfl | ⟨hz, hze⟩
    · exact hf.self hyg hzg
    · rcases hnew g hyg with h1 | h1
      · exact h.rd x hx z hz g h1 hzg
      · have := ((h.file z hz).red_lt hzg).2.1; omega
    · rcases hnewr g hzg with h1 | h1
      · exact h.rd y hy x hx g hyg h1
      · have := ((h.file y hy).mut_lt hyg).2; omega
    · exact h.rd y hy z hz g hyg hzg
  · have e := congrArg List.length hptr
    simp only [ptrs, List.length_map] at e
    rw [e]; exact h.few
  · intro y hy
    rcases (hmem y).1 hy with rfl | ⟨hy, _⟩
    · exact h.names x hx
    · exact h.names y hy
  · intro g hgm
    rcases hgm with e | e | ⟨y, hy, hgm⟩
    · exact .inl (.inl e)
    · exact .inl (.inr (.inl e))
    · rcases (hmem y).1 hy with rfl | ⟨hy, _⟩
      · rcases hnew g hgm with h1 | h1
        · exact .inl (.inr (.inr ⟨x, hx, h1⟩))
        · exact .inr h1
      · exact .inl (.inr (.inr ⟨y, hy, hgm⟩))
  · intro g hgm
    obtain ⟨y, hy, hgm⟩ := hgm
    rcases (hmem y).1 hy with rfl | ⟨hy, _⟩
    · rcases hnewr g hgm with h1 | h1
      · exact .inl ⟨x, hx, h1⟩
      · exact .inr h1
    · exact .inl ⟨y, hy, hgm⟩
theorem DMut.iff (d M : Nat) (fs : List Fe) (g : Nat) : DMut d M fs g ↔ (g = d ∨ g = M ∨ ∃ x ∈ fs, x.mut g) := Iff.rfl
/-- The map alone has changed: files are taken away, or one that lies apart comes to it. -/
theorem DiskAt.remap (h : DiskAt base w d M room N fs) (hg : w.grownBy w' (some M)) (hm : MapAt w' M (ptrs fs')) (hr : Rises fs') (hsub : ∀ y ∈ fs', y.1.length ≤ 64 ∧ ∃ x ∈ fs, y.2 = x.2) (hinj : ∀ y ∈ fs', ∀ z ∈ fs', y.1 ≠ z.1 → ∀ a ∈ fs, ∀ b ∈ fs, y.2 = a.2 → z.2 = b.2 → a.1 ≠ b.1) (hfew : fs'.length ≤ 16) :
    DiskAt base w' d M room N fs' ∧ DGrew d M w fs w' fs' := by
  have hk : ∀ g, g < w.heap.size → g ≠ M → w'.heap[g]? = w.heap[g]? := fun g hlt hne => hg.block g hlt (fun e => hne (Option.some.inj e))
  have hfile : ∀ x ∈ fs, FileAt base w' x.2.1 x.2.2 := fun x hx => (h.file x hx).same (fun g hgx => by
    rcases hgx with h1 | h1
    · exact hk g ((h.file x hx).mut_lt h1).2 (fun e => (h.notM hx).1 (e ▸ h1))
    · exact hk g ((h.file x hx).red_lt h1).2.1 (fun e => (h.notM hx).2 (e ▸ h1)))
  refine ⟨⟨(hk d h.ltD h.dm).trans h.box, hm, hr, ?_, ?_, h.lowD, h.lowM, ?_, ?_, hfew, fun y hy => (hsub y hy).1⟩, ⟨hg.os, hg.tape, hg.output, hg.size, fun i hi hn => hk i hi (fun e => hn (.inr (.inl e))), ?_, ?_⟩⟩
  · intro y hy
    obtain ⟨_, x, hx, e⟩ := hsub y hy
    rw [e]; exact hfile x hx
  · intro y hy
    obtain ⟨_, x, hx, e⟩ := hsub y hy
    rw [e]; exact h.ok x hx
  · intro y hy z hz hne g hyg hzg
    obtain ⟨_, a, ha, ea⟩ := hsub y hy
    obtain ⟨_, b, hb, eb⟩ := hsub z hz
    have h1 := hinj y hy z hz hne a ha b hb ea eb
    unfold Fe.mut at hyg hzg
    rw [ea] at hyg
    rw [eb] at hzg
    exact h.ap a ha b hb h1 g hyg hzg
  · intro y hy z hz g hyg hzg
    obtain ⟨_, a, ha, ea⟩ := hsub y hy
    obtain ⟨_, b, hb, eb⟩ := hsub z hz
    unfold Fe.mut at hyg
    unfold Fe.red at hzg
    rw [ea] at hyg
    rw [eb] at hzg
    exact h.rd a ha b hb g hyg hzg
  · intro g hgm
    rcases hgm with e | e | ⟨y, hy, hgm⟩
    · exact .inl (.inl e)
    · exact .inl (.inr (.inl e))
    · obtain ⟨_, x, hx, e⟩ := hsub y hy
      unfold Fe.mut at hgm
      rw [e] at hgm
      exact .inl (.inr (.inr ⟨x, hx, hgm⟩))
  · intro g hgm
    obtain ⟨y, hy, hgm⟩ := hgm
    obtain ⟨_, x, hx, e⟩ := hsub y hy
    unfold Fe.red at hgm
    rw [e] at hgm
    exact .inl ⟨x, hx, hgm⟩
end
end Go.Proofs.YtijcpmbfhfppmaaGreatDoor
