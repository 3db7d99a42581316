/- Disk: what a crash leaves of a file. -/
import Derived.Test.YtijcpmbfhfppmaaGreatDoorDk6
namespace Go.Proofs.YtijcpmbfhfppmaaGreatDoor
open Go.ChangeShapes Go.WideShapes Go.ChangeAt Go.RowKit

/-- What the first units of changes make of bytes, and how many units are left. -/
def crashL : List Chg → List Nat → Nat → List Nat × Nat
  | [], y, n => (y, n)
  | c :: cs, y, n => if n = 0 then (y, 0) else crashL cs (ontoC c y (min n (unitsC c))) (n - min n (unitsC c))
/-- Each change stands where the ones before it left bytes. -/
def fitsC : List Chg → List Nat → Prop
  | [], _ => True
  | c :: cs, y => c.2.1 ≤ y.length ∧ y.length + c.2.2.length ≤ 140737488355328 ∧ fitsC cs (ontoC c y (unitsC c))
theorem crashL_zero (cs : List Chg) (y : List Nat) : crashL cs y 0 = (y, 0) := by cases cs <;> simp [crashL]
theorem OwnC.cell {base : Nat} {w : World} {sp : Option Addr} {c : Nat} {xs : List ChH} (h : OwnC base w sp c xs) (i : Nat) (hi : i < xs.length) : ∃ g, sp = some ⟨g, 0, none⟩ ∧ w.cell? ⟨g, i * 3, none⟩ = some (.bool xs[i].1.1) ∧ w.cell? ⟨g, i * 3 + 1, none⟩ = some (.int .i64 (xs[i].1.2.1 : Int)) ∧ w.cell? ⟨g, i * 3 + 2, none⟩ = some (.slice xs[i].2.1 xs[i].1.2.2.length xs[i].2.2) := by
  rcases h.row.2 with ⟨_, h0⟩ | ⟨g, cap, cur, hv, _, hg, _, _, _, ht⟩
  · omega
  · simp only [Value.slice.injEq] at hv
    obtain ⟨rfl, _, _⟩ := hv
    have key : ∀ f, f < 3 → w.cell? ⟨g, i * 3 + f, none⟩ = (chRow xs[i])[f]? := by
      intro f hf
      rw [cell_of_row w g _ cur _ _ hg]
      have hlt : i * 3 + f < xs.length * 3 := by omega
      have e : (cur.toList.take (xs.length * 3))[i * 3 + f]? = cur.toList[i * 3 + f]? := by rw [List.getElem?_take, if_pos hlt]
      rw [ht, rowsC_get xs i f hi hf] at e
      rw [e]
      simp
    exact ⟨g, rfl, by simpa [chRow] using key 0 (by omega), by simpa [chRow] using key 1 (by omega), by simpa [chRow] using key 2 (by omega)⟩
def Fil.overY (f : Fil) (yp : Option Addr) (yc : Nat) (y : List Nat) : Fil := { f with yp := yp, yc := yc, y := y }
theorem FileAt.overY {base : Nat} {w V : World} {F : Nat} {f : Fil} (h : FileAt base w F f) (yp : Option Addr) (yc : Nat) (y : List Nat) (hX : Bx base V yp yc y) (hG : Grew w f.yp V yp) :
    V.cell? ⟨F, 1, none⟩ = some (.slice f.yp f.y.length f.yc) ∧ V.frozen? ⟨F, 1, none⟩ = false ∧
    FileAt base (V.setCell ⟨F, 1, none⟩ (.slice yp y.length yc)) F (f.overY yp yc y) ∧ FGrew F w f (V.setCell ⟨F, 1, none⟩ (.slice yp y.length yc)) (f.overY yp yc y) := by
  have hbox : V.heap[F]? = some (.cells f.row 118 (0, 0)) := (hG.grown.block F h.ltF (fun e => h.sure.ne_block h.box (by decide) e.symm)).trans h.box
  have n1 : ∀ {b2 : Nat} {sp : Option Addr} {c : Nat} {l : List Nat}, Bx b2 w sp c l → (∀ g, blk sp = some g → blk f.yp ≠ some g) → ∀ g, blk yp = some g → blk sp ≠ some g := by
    intro b2 sp c l hB hne g hg hs
    rcases hG.lies g hg with h1 | h1
    · exact hne g hs h1
    · have := (hB.isT g hs).2.1; omega
  refine ⟨fcell hbox 1 _ (by simp [Fil.row]), ffree hbox 1, ?_, ?_⟩
  · refine FileAt.ofSet f hbox h.low 1 _ (f.overY yp yc y) (by simp [Fil.row, Fil.overY]) (h.bytes.grownNe hG.grown h.apart) hX (h.chs.grownNe hG.grown (fun g hg e => h.sure.ne_row h.chs g e hg) (fun x hx g hg => (h.far x hx g hg).2)) ?_ (fun x hx g hg => ⟨(h.far x hx g hg).1, fun e => ?_⟩)
    · exact fun g hg e => n1 h.bytes h.apart g e hg
    · exact n1 (h.chs.dat x hx) (fun g hg => (h.far x hx g hg).2) g e hg
  · refine ⟨hG.grown.os, hG.grown.tape, hG.grown.output, ?_, fun i hi hn => ?_, fun g hg => ?_, fun g hg => .inl hg⟩
    · have := hG.grown.size
      simpa [World.setCell] using this
    · rw [heap_setCell_other _ ⟨F, 1, none⟩ i _ (fun e => hn (.inl e))]
      exact hG.grown.block i hi (fun e => hn (.inr (.inr (.inl e.symm))))
    · rcases hg with rfl | hg | hg | hg
      · exact .inl (.inl rfl)
      · exact .inl (.inr (.inl hg))
      · rcases hG.lies g hg with h1 | h1
        · exact .inl (.inr (.inr (.inl h1)))
        · exact .inr h1
      · exact .inl (.inr (.inr (.inr hg)))
def Fil.crashed (f : Fil) (bp : Option Addr) : Fil := { f with bp := bp, bc := f.y.length, b := f.y, la := true, cp := none, cc := 0, xs := [] }
/-- The three stores that end a crash. -/
theorem FileAt.crash3 {base : Nat} {w V : World} {F : Nat} {f : Fil} (h : FileAt base w F f) (hbs : base ≤ w.heap.size) (hb : Below w.heap.size w V) (dp : Option Addr) (hd : Bx w.heap.size V dp f.y.length f.y) :
    FileAt base (V.setCell ⟨F, 0, none⟩ (.slice dp f.y.length f.y.length)) F { f with bp := dp, bc := f.y.length, b := f.y } ∧
    FileAt base ((V.setCell ⟨F, 0, none⟩ (.slice dp f.y.length f.y.length)).setCell ⟨F, 2, none⟩ (.bool true)) F { f with bp := dp, bc := f.y.length, b := f.y, la := true } ∧
    FileAt base (((V.setCell ⟨F, 0, none⟩ (.slice dp f.y.length f.y.length)).setCell ⟨F, 2, none⟩ (.bool true)).setCell ⟨F, 3, none⟩ (.slice none 0 0)) F (f.crashed dp) ∧
    FGrew F w f (((V.setCell ⟨F, 0, none⟩ (.slice dp f.y.length f.y.length)).setCell ⟨F, 2, none⟩ (.bool true)).setCell ⟨F, 3, none⟩ (.slice none 0 0)) (f.crashed dp) := by
  have hV := h.later hb
  have H1 : FileAt base (V.setCell ⟨F, 0, none⟩ (.slice dp f.y.length f.y.length)) F { f with bp := dp, bc := f.y.length, b := f.y } :=
    hV.set 0 _ _ (by simp [Fil.row]) (hd.mono hbs) hV.sure hV.chs (fun g hg e => h.sure.old_ne hd g e hg) (fun x hx g hg => ⟨(h.chs.dat x hx).old_ne hd g hg, (h.far x hx g hg).2⟩)
  have H2 := H1.set 2 (.bool true) { f with bp := dp, bc := f.y.length, b := f.y, la := true } (by simp [Fil.row]) H1.bytes H1.sure H1.chs H1.apart H1.far
  have H3 := H2.set 3 (.slice none 0 0) (f.crashed dp) (by simp [Fil.row, Fil.crashed]) H2.bytes H2.sure (OwnC.ofNil _ _) H2.apart (by simp [Fil.crashed])
  refine ⟨H1, H2, H3, ⟨hb.os, hb.tape, hb.output, ?_, fun i hi hn => ?_, fun g hg => ?_, fun g hg => ?_⟩⟩
  · simpa [World.setCell] using hb.size
  · have hne : i ≠ F := fun e => hn (.inl e)
    rw [heap_setCell_other _ ⟨F, 3, none⟩ i _ hne, heap_setCell_other _ ⟨F, 2, none⟩ i _ hne, heap_setCell_other _ ⟨F, 0, none⟩ i _ hne]
    exact hb.block i hi
  · rcases hg with rfl | hg | hg | hg
    · exact .inl (.inl rfl)
    · exact .inr (hd.isT g hg).1
    · exact .inl (.inr (.inr (.inl hg)))
    · cases hg
  · obtain ⟨x, hx, _⟩ := hg
    simp [Fil.crashed] at hx
end Go.Proofs.YtijcpmbfhfppmaaGreatDoor
