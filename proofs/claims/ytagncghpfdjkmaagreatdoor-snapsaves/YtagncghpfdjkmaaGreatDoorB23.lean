/- What slices.SortFunc asks of the program, at this program's numbers. -/
import Derived.Shelf.SlSortCmp.WholeK
import Derived.Ground.SlsfProg
import Derived.Test.YtagncghpfdjkmaaGreatDoorProg
import Derived.Test.YtagncghpfdjkmaaGreatDoorB22
import Derived.Shelf.SlSortCmp.NoneTotal
section
namespace Go.Proofs
open Go.RowKit Go.Sort Go.Shelf
def Tryz.sortF121_ren : Go.Shelf.Ren := ⟨fun | 6 => 121 | 15 => 144 | 14 => 143 | 28 => 171 | 29 => 172 | 20 => 163 | 21 => 164 | 22 => 165 | 23 => 166 | 24 => 167 | 25 => 168 | 26 => 169 | 27 => 170 | 46 => 192 | 47 => 193 | 48 => 194 | 49 => 195 | 50 => 196 | 57 => 207 | n => n, fun | 22 => 133 | 24 => 111 | 25 => 175 | 3 => 3 | 39 => 157 | 0 => 0 | 53 => 100 | 55 => 42 | 4 => 4 | 46 => 205 | 45 => 204 | 50 => 209 | 5 => 5 | 9 => 9 | 66 => 232 | 70 => 236 | 76 => 249 | 77 => 250 | n => n, fun | n => n⟩
theorem Tryz.sortF121 : Go.Proofs.SlLaysF0.n6 Tryz.prog Tryz.sortF121_ren := {
  mixed := by kernel_rfl
  f6 := ⟨Tryz.f121.name, by decide, Tryz.func121.trans (congrArg some (by kernel_rfl))⟩
  f14 := ⟨Tryz.f143.name, by decide, Tryz.func143.trans (congrArg some (by kernel_rfl))⟩
  f15 := Tryz.func144.trans (congrArg some (by kernel_rfl))
  f20 := ⟨Tryz.f163.name, by decide, Tryz.func163.trans (congrArg some (by kernel_rfl))⟩
  f21 := ⟨Tryz.f164.name, by decide, Tryz.func164.trans (congrArg some (by kernel_rfl))⟩
  f22 := ⟨Tryz.f165.name, by decide, Tryz.func165.trans (congrArg some (by kernel_rfl))⟩
  f23 := ⟨Tryz.f166.name, by decide, Tryz.func166.trans (congrArg some (by kernel_rfl))⟩
  f24 := ⟨Tryz.f167.name, by decide, Tryz.func167.trans (congrArg some (by kernel_rfl))⟩
  f25 := ⟨Tryz.f168.name, by decide, Tryz.func168.trans (congrArg some (by kernel_rfl))⟩
  f26 := ⟨Tryz.f169.name, by decide, Tryz.func169.trans (congrArg some (by kernel_rfl))⟩
  f27 := ⟨Tryz.f170.name, by decide, Tryz.func170.trans (congrArg some (by kernel_rfl))⟩
  f28 := Tryz.func171.trans (congrArg some (by kernel_rfl))
  f29 := Tryz.func172.trans (congrArg some (by kernel_rfl))
  f46 := ⟨Tryz.f192.name, by decide, Tryz.func192.trans (congrArg some (by kernel_rfl))⟩
  f47 := Tryz.func193.trans (congrArg some (by kernel_rfl))
  f48 := Tryz.func194.trans (congrArg some (by kernel_rfl))
  f49 := ⟨Tryz.f195.name, by decide, Tryz.func195.trans (congrArg some (by kernel_rfl))⟩
  f50 := ⟨Tryz.f196.name, by decide, Tryz.func196.trans (congrArg some (by kernel_rfl))⟩
  f57 := ⟨Tryz.f207.name, by decide, Tryz.func207.trans (congrArg some (by kernel_rfl))⟩
  t0 := Tryz.underlying0
  a0 := Tryz.isAgg0
  z0 := Tryz.sizeOf0
  v0 := Tryz.zeroValue0
  t3 := Tryz.underlying3
  a3 := Tryz.isAgg3
  z3 := Tryz.sizeOf3
  v3 := Tryz.zeroValue3
  t4 := Tryz.underlying4
  a4 := Tryz.isAgg4
  z4 := Tryz.sizeOf4
  v4 := Tryz.zeroValue4
  t5 := Tryz.underlying5
  a5 := Tryz.isAgg5
  z5 := Tryz.sizeOf5
  v5 := Tryz.zeroValue5
  t9 := Tryz.underlying9
  a9 := Tryz.isAgg9
  z9 := Tryz.sizeOf9
  v9 := Tryz.zeroValue9
  t22 := Tryz.underlying133
  a22 := Tryz.isAgg133
  z22 := Tryz.sizeOf133
  v22 := Tryz.zeroValue133
  t25 := Tryz.underlying175
  a25 := Tryz.isAgg175
  z25 := Tryz.sizeOf175
  v25 := Tryz.zeroValue175
  t39 := Tryz.underlying157
  a39 := Tryz.isAgg157
  z39 := Tryz.sizeOf157
  v39 := Tryz.zeroValue157
  t45 := Tryz.underlying204
  a45 := Tryz.isAgg204
  z45 := Tryz.sizeOf204
  v45 := Tryz.zeroValue204
  t46 := Tryz.underlying205
  a46 := Tryz.isAgg205
  z46 := Tryz.sizeOf205
  v46 := Tryz.zeroValue205
  t50 := Tryz.underlying209
  a50 := Tryz.isAgg209
  z50 := Tryz.sizeOf209
  v50 := Tryz.zeroValue209
  t53 := Tryz.underlying100
  a53 := Tryz.isAgg100
  z53 := Tryz.sizeOf100
  v53 := Tryz.zeroValue100
  t55 := Tryz.underlying42
  a55 := Tryz.isAgg42
  z55 := Tryz.sizeOf42
  v55 := Tryz.zeroValue42
  t66 := Tryz.underlying232
  a66 := Tryz.isAgg232
  z66 := Tryz.sizeOf232
  v66 := Tryz.zeroValue232
  t70 := Tryz.underlying236
  a70 := Tryz.isAgg236
  z70 := Tryz.sizeOf236
  v70 := Tryz.zeroValue236
  t76 := Tryz.underlying249
  a76 := Tryz.isAgg249
  z76 := Tryz.sizeOf249
  v76 := Tryz.zeroValue249
  t77 := Tryz.underlying250
  a77 := Tryz.isAgg250
  z77 := Tryz.sizeOf250
  v77 := Tryz.zeroValue250 }
end Go.Proofs
end
/- Snapshots: files sorted, the newest first. -/
section
namespace Go.Proofs.YtagncghpfdjkmaaGreatDoor
open Go.ChangeShapes Go.WideShapes Go.ChangeAt Go.RowKit Go.Sort Go.Shelf
set_option linter.unusedVariables false

/-- Which of two comes first: that of the greater index. -/
def cmpF (x y : Fl) : Int := Lib.compareInt (y.2 : Int) (x.2 : Int)
theorem ltF (x y : Fl) : ltOf cmpF x y = decide (y.2 < x.2) := by
  unfold ltOf cmpF Lib.compareInt
  by_cases h1 : (y.2 : Int) < (x.2 : Int)
  · have : y.2 < x.2 := by omega
    simp [this]
  · have h3 : ¬ y.2 < x.2 := by omega
    by_cases h2 : (x.2 : Int) < (y.2 : Int)
    · have : x.2 < y.2 := by omega
      simp [h3, this]
    · have : ¬ x.2 < y.2 := by omega
      simp [h3, this]
theorem swoF : SWO (ltOf cmpF) where
  irrefl x := by rw [ltF]; simp
  trans x y z h1 h2 := by rw [ltF] at *; simp at *; omega
  ntrans x y z h1 h2 := by rw [ltF] at *; simp at *; omega
theorem flat_rows (fs : List Fl) : (flatK flRow 2 fs.toArray).toList = rowsF fs := by
  apply List.ext_getElem?
  intro t
  by_cases ht : t < fs.length * 2
  · have h1 := rowsF_get fs (t / 2) (t % 2) (by omega) (by omega)
    rw [show t / 2 * 2 + t % 2 = t by omega] at h1
    rw [h1, Array.getElem?_toList]
    have hs : t < (flatK flRow 2 fs.toArray).size := by rw [size_flatK]; simpa using ht
    rw [Array.getElem?_eq_getElem hs, ← getElem!_pos _ t hs, get_flatK _ _ _ _ (by simpa using ht)]
    have hd : (fs.toArray)[t / 2]! = fs[t / 2] := by rw [getElem!_pos _ _ (by simp; omega)]; simp
    rw [hd]
    have hf : t % 2 < (flRow fs[t / 2]).length := by show t % 2 < 2; omega
    rw [List.getElem?_eq_getElem hf]
    exact congrArg some (getElem!_pos (flRow fs[t / 2]) (t % 2) hf)
  · rw [List.getElem?_eq_none (by rw [Array.length_toList, size_flatK]; simp; omega), List.getElem?_eq_none (by rw [rowsF_length]; omega)]
theorem closureF (x y : Fl) (W : World) : Calls Tryz.prog 122 #[.agg #[.string (str x.1), .int .i64 (x.2 : Int)], .agg #[.string (str y.1), .int .i64 (y.2 : Int)]] W fun e w' => e = .returned (.int .i64 (cmpF x y)) ∧ ∃ q os', w' = grow (W.drewN q) os' := by
  have CI := hide (fun W' => compare_int (y.2 : Int) (x.2 : Int) W')
  have EQ := hide (show cmpF x y = Lib.compareInt (y.2 : Int) (x.2 : Int) from rfl)
  generalize Lib.compareInt (y.2 : Int) (x.2 : Int) = r at *
  generalize cmpF x y = r2 at *
  go_enter Tryz.func122, Tryz.ntmps122
  go_wp2_with (go_at_call 123; refine (unhide CI _).mono ?_; rintro e w' ⟨rfl, rfl⟩)
  go_ret
  exact ⟨by rw [unhide EQ]; rfl, 0, _, by rw [alloc_eq_grow, alloc_eq_grow, grow_grow]; rfl⟩
theorem cmpLaysF (blk off size : Nat) (w : World) : CmpLays Tryz.prog 122 #[] flRow 2 cmpF blk off size w := fun _ _ _ _ x y => closureF x y _
theorem sortedHeap {w : World} {g n : Nat} {os : Array Obj} {cur : Array Value} {e : TypeId} {fr : Nat × Nat} (d : Array Value) (hb : w.heap[g]? = some (.cells cur e fr)) :
    (grow (putRow id (Sort.ahead w n) g 0 d) os).heap[g]? = some (.cells (putCells id 0 d cur) e fr) := by
  have hg : g < w.heap.size := (Array.getElem?_eq_some_iff.1 hb).1
  rw [heap_grow_old _ _ (by simpa using hg)]
  simp [putRow, mapBlock, Sort.ahead, Array.getElem?_modify, hb, onCells]
theorem sortedGrown {w : World} {g n : Nat} {os : Array Obj} (d : Array Value) : w.grownBy (grow (putRow id (Sort.ahead w n) g 0 d) os) (some g) := by
  refine ⟨rfl, rfl, rfl, by simp, fun k hk hne => ?_⟩
  rw [heap_grow_old _ _ (by simpa using hk)]
  have : g ≠ k := fun e => hne (by rw [e])
  simp [putRow, mapBlock, Sort.ahead, Array.getElem?_modify, this]
theorem takePut (cur : Array Value) (d : Array Value) (h : d.size ≤ cur.size) : (putCells id 0 d cur).toList.take d.size = d.toList := by
  apply List.ext_getElem?
  intro j
  by_cases hj : j < d.size
  · rw [List.getElem?_take_of_lt hj, Array.getElem?_toList, Array.getElem?_toList]
    simp [putCells, hj, show j < cur.size by omega]
  · rw [List.getElem?_take_eq_none (by omega), List.getElem?_eq_none (by simp; omega)]
/-- slices.SortFunc on files of one's own. -/
theorem sortF_calls {base : Nat} {V : World} {sp : Option Addr} {c : Nat} {fs : List Fl} (o : OwnF base V sp c fs) (hl : fs.length ≤ 1000) (hb : base ≤ V.heap.size) :
    Calls Tryz.prog 121 #[.slice sp fs.length c, .func (.func 122) #[] #[]] V fun e w' => e = .returned (.tuple #[]) ∧ ∃ fs' : List Fl, fs'.Perm fs ∧ fs'.Pairwise (fun a b => b.2 ≤ a.2) ∧ OwnF base w' sp c fs' ∧ Below base V w' := by
  rcases o.2 with ⟨hv, h0⟩ | ⟨g, cap, cur, hv, hbg, hg, hle, hmx, hsz, ht⟩
  · simp only [Value.slice.injEq] at hv
    obtain ⟨rfl, hz, rfl⟩ := hv
    obtain rfl : fs = [] := List.eq_nil_of_length_eq_zero hz
    have hN := AnyF.slices_SortFunc_none (P := Tryz.prog) (ρ := Tryz.sortF121_ren) Tryz.sortF121 none 0 (.func (.func 122) #[] #[]) V
    refine Calls.mono (show Calls Tryz.prog 121 #[.slice none ([] : List Fl).length 0, .func (.func 122) #[] #[]] V _ from hN) ?_
    rintro e w' ⟨rfl, rfl⟩
    exact ⟨rfl, [], List.Perm.refl _, List.Pairwise.nil, OwnF.ofNil _ _, Below.refl _ _⟩
  · simp only [Value.slice.injEq] at hv
    obtain ⟨rfl, _, rfl⟩ := hv
    have hglt : g < V.heap.size := (Array.getElem?_eq_some_iff.1 hg).1
    have hH : HoldsK flRow 2 V g 0 fs.toArray := by
      intro j hj
      have hj' : j < fs.length * 2 := by rw [size_flatK] at hj; simpa using hj
      refine ⟨?_, by simp [World.frozen?, hg]⟩
      have h1 : (List.take (fs.length * 2) cur.toList)[j]? = (rowsF fs)[j]? := by rw [ht]
      rw [List.getElem?_take_of_lt hj', Array.getElem?_toList] at h1
      have h2 : (flatK flRow 2 fs.toArray)[j]! = (flatK flRow 2 fs.toArray)[j] := getElem!_pos _ j hj
      have h3 : (flatK flRow 2 fs.toArray).toList[j]? = some (flatK flRow 2 fs.toArray)[j] := by rw [Array.getElem?_toList, Array.getElem?_eq_getElem hj]
      rw [flat_rows, ← h1] at h3
      rw [Nat.zero_add, cell_of_row V g _ _ _ _ hg, h2]
      exact h3
    have hcon := AnyQ.slices_SortFunc (P := Tryz.prog) (ρ := Tryz.sortF121_ren) Tryz.sortF121 2 Tryz.isAgg111 Tryz.sizeOf111 flRow (fun _ => rfl) (fun x v hv => by simp [flRow] at hv; rcases hv with rfl | rfl <;> rfl) cmpF swoF 122 #[] g 0 c fs.toArray V (enters_of Tryz.func122 (by kernel_rfl) rfl) (cmpLaysF g 0 fs.toArray.size V) hH hglt (by simp; omega)
    refine Calls.mono (show Calls Tryz.prog 121 #[.slice (some ⟨g, 0, none⟩) fs.length c, .func (.func 122) #[] #[]] V _ from hcon) ?_
    rintro e w' ⟨rfl, d', n, os, hp, hs, rfl⟩
    have hdl : d'.size = fs.length := by have := hp.1; simpa using this
    refine ⟨rfl, d'.toList, ?_, ?_, ?_, ?_⟩
    · have h1 := hp.2.2
      have e1 : d'.extract 0 fs.toArray.size = d' := by rw [show fs.toArray.size = d'.size by rw [hdl]; simp]; exact Array.extract_size
      have e2 : fs.toArray.extract 0 fs.toArray.size = fs.toArray := Array.extract_size
      rw [e1, e2] at h1
      simpa using h1
    · rw [List.pairwise_iff_getElem]
      intro i j hi hj hij
      have h1 := hs i j (Nat.zero_le _) hij (by rw [show fs.toArray.size = d'.size by rw [hdl]; simp]; simpa using hj)
      rw [ltF] at h1
      have h2 := of_decide_eq_false h1
      rw [getElem!_pos d' i (by simpa using hi), getElem!_pos d' j (by simpa using hj)] at h2
      simp only [Array.getElem_toList]
      omega
    · have hfs : (flatK flRow 2 d').size = d'.size * 2 := size_flatK _ _ _
      have hfl : (flatK flRow 2 d').toList = rowsF d'.toList := by
        have := flat_rows d'.toList
        simpa using this
      refine ⟨by rw [rowsF_length], .inr ⟨g, c, _, ?_, hbg, sortedHeap (flatK flRow 2 d') hg, ?_, hmx, by simp [putCells, hsz], ?_⟩⟩
      · rfl
      · rw [Array.length_toList, hdl]; exact hle
      · rw [Array.length_toList, ← hfs, takePut cur (flatK flRow 2 d') (by rw [hfs, hdl, hsz]; omega), hfl]
    · exact (Below.refl base V).grown (sortedGrown (flatK flRow 2 d')) hb (fun g' hg' => by have := Option.some.inj hg'; omega)
/-- The files among names, the newest first. -/
def FilesEnd (l : List Nm) (w : World) (e : Ending) (w' : World) : Prop := ∃ (fs : List Fl) (sp : Option Addr) (c m : Nat), e = .returned (.slice sp m c) ∧ fs.length = m ∧ fs.Perm (filS l) ∧ fs.Pairwise (fun a b => b.2 ≤ a.2) ∧ OwnF w.heap.size w' sp c fs ∧ Below w.heap.size w w'
theorem filesOf_calls {base : Nat} {w : World} {sp : Option Addr} {n c : Nat} {l : List Nm} (h : OwnN base w sp c l) (hn : l.length = n) (hm : n ≤ 1000) (hl : ∀ s ∈ l, s.length ≤ 64) (hz : Tz w) :
    Calls Tryz.prog 87 #[.slice sp n c] w (FilesEnd l w) := by
  refine filesOf_loop h hn hm hl hz (FilesEnd l w) fun sp2 c2 V ho hb => ?_
  refine (sortF_calls ho (Nat.le_trans (filS_len l) (by omega)) hb.size).mono ?_
  rintro e w' ⟨rfl, fs', hp, hs, ho', hb'⟩
  exact ⟨rfl, fs', sp2, c2, _, rfl, hp.length_eq, hp, hs, ho', hb.trans hb'⟩
end Go.Proofs.YtagncghpfdjkmaaGreatDoor
end
/- Snapshots: keep. -/
section
namespace Go.Proofs.YtagncghpfdjkmaaGreatDoor
open Go.ChangeShapes Go.WideShapes Go.ChangeAt Go.RowKit
set_option linter.unusedVariables false

/-- Files, that of the greatest index first. -/
def insD (x : Fl) : List Fl → List Fl
  | [] => [x]
  | y :: r => if y.2 ≤ x.2 then x :: y :: r else y :: insD x r
def sorD : List Fl → List Fl
  | [] => []
  | x :: r => insD x (sorD r)
theorem insD_perm (x : Fl) : ∀ l, (insD x l).Perm (x :: l)
  | [] => List.Perm.refl _
  | y :: r => by
    unfold insD
    split
    · exact List.Perm.refl _
    · exact ((insD_perm x r).cons y).trans (List.Perm.swap x y r)
theorem sorD_perm : ∀ l, (sorD l).Perm l
  | [] => List.Perm.refl _
  | x :: r => (insD_perm x (sorD r)).trans ((sorD_perm r).cons x)
theorem insD_desc (x : Fl) : ∀ l : List Fl, l.Pairwise (fun a b => b.2 ≤ a.2) → (insD x l).Pairwise (fun a b => b.2 ≤ a.2)
  | [], _ => by simp [insD]
  | y :: r, h => by
    unfold insD
    have h1 := List.pairwise_cons.1 h
    split
    · rename_i hle
      refine List.pairwise_cons.2 ⟨fun z hz => ?_, h⟩
      rcases List.mem_cons.1 hz with rfl | hz
      · exact hle
      · exact Nat.le_trans (h1.1 z hz) hle
    · rename_i hle
      refine List.pairwise_cons.2 ⟨fun z hz => ?_, insD_desc x r h1.2⟩
      rcases List.mem_cons.1 ((insD_perm x r).mem_iff.1 hz) with rfl | hz
      · omega
      · exact h1.1 z hz
theorem sorD_desc : ∀ l : List Fl, (sorD l).Pairwise (fun a b => b.2 ≤ a.2)
  | [] => List.Pairwise.nil
  | x :: r => insD_desc x _ (sorD_desc r)
theorem desc_uniq : ∀ {a b : List Fl}, a.Perm b → a.Pairwise (fun x y => y.2 ≤ x.2) → b.Pairwise (fun x y => y.2 ≤ x.2) → (∀ x ∈ a, ∀ y ∈ a, x.2 = y.2 → x = y) → a = b
  | [], b, hp, _, _, _ => (List.Perm.nil_eq hp)
  | x :: a, [], hp, _, _, _ => by have := hp.length_eq; simp at this
  | x :: a, y :: b, hp, ha, hb, hu => by
    have h1 := List.pairwise_cons.1 ha
    have h2 := List.pairwise_cons.1 hb
    have hy : y ∈ x :: a := hp.mem_iff.2 (List.mem_cons_self)
    have hx : x ∈ y :: b := hp.mem_iff.1 (List.mem_cons_self)
    have hxy : x = y := by
      refine hu x List.mem_cons_self y hy ?_
      have e1 : y.2 ≤ x.2 := by
        rcases List.mem_cons.1 hy with rfl | hy
        · exact Nat.le_refl _
        · exact h1.1 y hy
      have e2 : x.2 ≤ y.2 := by
        rcases List.mem_cons.1 hx with rfl | hx
        · exact Nat.le_refl _
        · exact h2.1 x hx
      omega
    subst hxy
    rw [desc_uniq (hp.cons_inv) h1.2 h2.2 (fun u hu' v hv' => hu u (List.mem_cons_of_mem _ hu') v (List.mem_cons_of_mem _ hv'))]
theorem filS_mem {l : List Nm} {x : Fl} (h : x ∈ filS l) : x.1 ∈ l ∧ 0 < x.2 ∧ x.1 = snNm x.2 ∧ x.2 ≤ 1099511627776 := by
  unfold filS at h
  obtain ⟨s, hs, he⟩ := List.mem_filterMap.1 h
  split at he
  · rename_i h0
    cases he
    exact ⟨hs, h0, (numS_is rfl h0).1, (numS_is rfl h0).2⟩
  · cases he
/-- Whatever order they come in: there is one that is sorted. -/
theorem files_are {l : List Nm} {fs : List Fl} (hp : fs.Perm (filS l)) (hd : fs.Pairwise (fun a b => b.2 ≤ a.2)) : fs = sorD (filS l) :=
  desc_uniq (hp.trans (sorD_perm _).symm) hd (sorD_desc _) (fun x hx y hy e => by
    have h1 := (filS_mem (hp.mem_iff.1 hx)).2.2.1
    have h2 := (filS_mem (hp.mem_iff.1 hy)).2.2.1
    exact Prod.ext (by rw [h1, h2, e]) e)
/-- The elder ones go. -/
def remL (k : Nat) : List Fl → Ds → Nat × Ds
  | [], ss => (0, ss)
  | f :: r, ss => if k ≤ f.2 then remL k r ss else if (dRemove f.1 ss).1 ≠ 0 then dRemove f.1 ss else remL k r (dRemove f.1 ss).2
def sKeep (room k : Nat) (b : List Nat) (ss : Ds) : Nat × Ds :=
  if (dWrite room spareS 0 b ss).1 ≠ 0 then dWrite room spareS 0 b ss else
  if (dSync spareS (dWrite room spareS 0 b ss).2).1 ≠ 0 then dSync spareS (dWrite room spareS 0 b ss).2 else
  if (dRename spareS (snNm k) (dSync spareS (dWrite room spareS 0 b ss).2).2).1 ≠ 0 then dRename spareS (snNm k) (dSync spareS (dWrite room spareS 0 b ss).2).2 else
  remL k (sorD (filS ((dRename spareS (snNm k) (dSync spareS (dWrite room spareS 0 b ss).2).2).2.map (·.1)))) (dRename spareS (snNm k) (dSync spareS (dWrite room spareS 0 b ss).2).2).2
theorem sKeep_1 {room k : Nat} {b : List Nat} {ss s1 : Ds} {e1 : Nat} (h : dWrite room spareS 0 b ss = (e1, s1)) : sKeep room k b ss = (if e1 ≠ 0 then (e1, s1) else if (dSync spareS s1).1 ≠ 0 then dSync spareS s1 else if (dRename spareS (snNm k) (dSync spareS s1).2).1 ≠ 0 then dRename spareS (snNm k) (dSync spareS s1).2 else
  remL k (sorD (filS ((dRename spareS (snNm k) (dSync spareS s1).2).2.map (·.1)))) (dRename spareS (snNm k) (dSync spareS s1).2).2) := by
  unfold sKeep
  rw [h]
end Go.Proofs.YtagncghpfdjkmaaGreatDoor
end
/- Snapshots: the walk of keep. -/
section
namespace Go.Proofs.YtagncghpfdjkmaaGreatDoor
open Go.ChangeShapes Go.WideShapes Go.ChangeAt Go.RowKit
set_option linter.unusedVariables false

abbrev spB : ByteArray := ⟨#[115, 110, 97, 112, 46, 116, 109, 112]⟩
theorem snm_size (k : Nat) (hk : k ≤ 1099511627776) : (str (snNm k)).size ≤ maxLen := by
  rw [str_size]
  have := snNm_len k (by omega)
  simp only [maxLen]
  omega
set_option maxRecDepth 20000 in
set_option maxHeartbeats 16000000 in
theorem keep_calls {Av : Nat → Prop} {base : Nat} {w : World} {d M room N : Nat} {ss : Ds} (h : DAt Av base w d M room N ss) (hN : N + 1 ≤ 1000000) (ht : ∃ w0 : World, w0.heap.size = base ∧ Tz w0 ∧ Below base w0 w) (k : Nat) (hk : 1 ≤ k ∧ k ≤ 1099511627776) (bp : Option Addr) (bn bc : Nat) (b : List Nat) (hbn : b.length = bn) (hbc : bn ≤ bc) (hB : BytesAt w bp b) (hb0 : bp = none → bc = 0) (hlo : ∀ g o, bp = some ⟨g, o, none⟩ → 0 < bn → g < base ∨ Av g) (hbl : bn ≤ 140737488355328) :
    Calls Tryz.prog 70 #[.pointer (some ⟨d, 0, none⟩), .agg #[.string (str (snNm k)), .int .i64 (k : Int)], .slice bp bn bc] w (AEnd Av base d M room (N + 1) w (sKeep room k b ss)) := by
  have U1 := hide ((Below.refl w.heap.size w).alloc (Nat.le_refl _) (.cells #[.string (str (snNm k)), .int .i64 (k : Int)] 111))
  have X1 := hide (heap_new w (.cells #[.string (str (snNm k)), .int .i64 (k : Int)] 111))
  have H1 := hide (h.more (unhide U1))
  have K1 := hide (show w.heap.size < (w.alloc (.cells #[.string (str (snNm k)), .int .i64 (k : Int)] 111)).heap.size by simp)
  have TT := hide ht
  have HSZ := hide (snm_size k hk.2)
  have HLE := hide h.le
  have AL := hide (show ∀ g, Av g → g < w.heap.size from fun g hg => h.lt hg)
  have WC := hide (awrite_calls (unhide H1) hN spB (by decide) 0 (by omega) bp bn bc b hbn hbc (hB.later (unhide U1)) hb0 (fun g o e h0 => (hlo g o e h0).imp id (fun h => .inl h)) hbl)
  rw [show spB.data.toList = spareS from rfl] at WC
  have SK := hide (fun s1 e1 (hq : dWrite room spareS 0 b ss = (e1, s1)) => sKeep_1 (k := k) hq)
  have NML := hide (show (str (snNm k)).data.toList = snNm k from rfl)
  generalize str (snNm k) = nm at *
  generalize hq1 : dWrite room spareS 0 b ss = q1 at *
  obtain ⟨e1, s1⟩ := q1
  have SK1 := hide (unhide SK s1 e1 rfl)
  clear SK h ht hB hb0 hlo hq1
  have FE := hide (show ∀ (r : Nat × Ds) V, sKeep room k b ss = r → DAt (fun g => Av g ∨ (w.heap.size ≤ g ∧ g < (w.alloc (.cells #[.string nm, .int .i64 (k : Int)] 111)).heap.size)) base V d M room (N + 1) r.2 → Asd (fun g => Av g ∨ (w.heap.size ≤ g ∧ g < (w.alloc (.cells #[.string nm, .int .i64 (k : Int)] 111)).heap.size)) base (w.alloc (.cells #[.string nm, .int .i64 (k : Int)] 111)) V → AEnd Av base d M room (N + 1) w (sKeep room k b ss) (.returned (.int .i64 (r.1 : Int))) V from fun r V hr hd ha => by
    rw [hr]
    refine ⟨rfl, hd.av (fun g hg => .inl hg), ⟨fun g hg => (ha.av g (.inl hg)).trans ((unhide U1).block g (unhide AL g hg)), ((unhide U1).mono (unhide HLE)).trans ha.bel⟩⟩)
  obtain ⟨A1, hA1⟩ : ∃ P : Nat → Prop, P = (fun g => Av g ∨ (w.heap.size ≤ g ∧ g < (w.alloc (.cells #[.string nm, .int .i64 (k : Int)] 111)).heap.size)) := ⟨_, rfl⟩
  rw [← hA1] at WC FE
  have AK := hide (show A1 w.heap.size by rw [hA1]; exact .inr ⟨Nat.le_refl _, unhide K1⟩)
  have B1 := hide ((unhide U1).mono (unhide HLE))
  clear hA1 H1
  go_enter Tryz.func70, Tryz.ntmps70
  go_wp2_with fail
  generalize w.alloc _ = W1 at *
  generalize hK : w.heap.size = K at *
  go_at_call 28
  refine (unhide WC).mono ?_
  rintro e V1 ⟨rfl, h1, a1⟩
  dsimp only at h1
  by_cases hz1 : e1 = 0
  · subst hz1
    rw [if_neg (by simp)] at SK1
    have C1 := hide (async_calls h1 spB (by decide))
    rw [show spB.data.toList = spareS from rfl] at C1
    generalize dSync spareS s1 = q2 at *
    obtain ⟨e2, s2⟩ := q2
    dsimp only at SK1
    have A1S := hide a1
    clear h1 a1 WC
    dsimp only
    rw [show ((0 : Nat) : Int) = 0 from rfl]
    go_wp2_with fail
    go_at_call 38
    refine (unhide C1).mono ?_
    rintro e V2 ⟨rfl, h2, a2⟩
    dsimp only at h2
    by_cases hz2 : e2 = 0
    · subst hz2
      rw [if_neg (by simp)] at SK1
      have A2S := hide ((unhide A1S).trans a2)
      have x0 : V2.cell? ⟨K, 0, none⟩ = some (.string nm) := box_cell (((unhide A2S).av K (unhide AK)).trans (unhide X1)) 0 _ rfl
      have C2 := hide (arename_calls h2 spB nm (by decide) (unhide HSZ))
      rw [show spB.data.toList = spareS from rfl, show nm.data.toList = snNm k from unhide NML] at C2
      generalize dRename spareS (snNm k) s2 = q3 at *
      obtain ⟨e3, s3⟩ := q3
      dsimp only at SK1
      clear h2 a2 C1 A1S
      dsimp only
      rw [show ((0 : Nat) : Int) = 0 from rfl]
      go_wp2_with fail
      go_at_call 39
      refine (unhide C2).mono ?_
      rintro e V3 ⟨rfl, h3, a3⟩
      dsimp only at h3
      clear x0
      by_cases hz3 : e3 = 0
      · subst hz3
        rw [if_neg (by simp)] at SK1
        have A3S := hide ((unhide A2S).trans a3)
        have H3 := hide h3
        have NC := hide (anames_calls h3)
        clear h3 a3 C2 A2S
        dsimp only
        rw [show ((0 : Nat) : Int) = 0 from rfl]
        go_wp2_with fail
        go_at_call 33
        refine (unhide NC).mono ?_
        rintro e V4 ⟨np, nn, nc, rfl, hnn, hno, v4⟩
        have T4 := hide (show Tz V4 from by
          obtain ⟨w0, t1, t2, t3⟩ := unhide TT
          exact t2.later (by rw [t1]; exact ((t3.trans (unhide B1)).trans (unhide A3S).bel).trans (v4.mono (unhide H3).le)))
        have FC := hide (filesOf_calls (n := nn) hno (by rw [List.length_map]; exact hnn) (by rw [← hnn]; exact Nat.le_trans (unhide H3).len (by omega)) (fun s hs => by
          obtain ⟨x, hx, rfl⟩ := List.mem_map.1 hs
          exact (unhide H3).nmlen x hx) (unhide T4))
        have V4U := hide v4
        clear NC hno hnn v4
        go_wp2_with fail
        go_at_call 87
        refine (unhide FC).mono ?_
        rintro e V5 ⟨fs, fp, fc, m, rfl, hfm, hpm, hpd, hof, v5⟩
        have FS := hide (files_are hpm hpd)
        have U5 := hide ((unhide V4U).trans (v5.mono (unhide V4U).size))
        have OF := hide hof
        have FM := hide hfm
        have ML := hide (show m ≤ 16 by
          rw [← hfm, hpm.length_eq]
          exact Nat.le_trans (filS_len _) (by rw [List.length_map]; exact (unhide H3).len))
        have FIN := hide (show ∀ f ∈ fs, f.1.length ≤ 64 from fun f hf => by
          obtain ⟨x, hx, he⟩ := List.mem_map.1 (filS_mem (hpm.mem_iff.1 hf)).1
          rw [← he]
          exact (unhide H3).nmlen x hx)
        rw [← unhide FS] at SK1
        have H5 := hide ((unhide H3).more (unhide U5))
        obtain ⟨A5, hA5⟩ : ∃ P : Nat → Prop, P = (fun g => A1 g ∨ (V3.heap.size ≤ g ∧ g < V5.heap.size)) := ⟨_, rfl⟩
        rw [← hA5] at H5
        have S4 := hide (unhide V4U).size
        have A15 := hide (show ∀ g, A1 g → A5 g from fun g hg => by rw [hA5]; exact .inl hg)
        have AF := hide (show ∀ g, fp = some ⟨g, 0, none⟩ → 0 < m → A5 g from fun g e h0 => by
          obtain ⟨g', e', hg1, hg2, _⟩ := (unhide OF).at_ 0 (by rw [unhide FM]; exact h0)
          rw [e] at e'
          cases e'
          rw [hA5]
          exact .inr ⟨Nat.le_trans (unhide S4) hg1, hg2⟩)
        have A5S := hide (show Asd A1 base W1 V5 from (unhide A3S).trans (Asd.of (fun g hg => (unhide H3).lt hg) (unhide H3).le (unhide U5)))
        have hml := unhide ML
        clear hfm hpm hpd hof v5 FC hA5 FS
        go_wp2_with fail
        go_loopw [35] (fun v wr => ∃ (j : Nat) (sj : Ds), j ≤ m ∧ v = .int .i64 (j : Int) ∧ Hid (remL k (fs.drop j) sj = remL k fs s3) ∧ Hid (DAt A5 base wr d M room (N + 1) sj) ∧ Hid (Asd A5 base V5 wr)) (fun v _ => m - (intOf v).toNat)
        case atStart => exact ⟨0, s3, by omega, rfl, hide rfl, H5, hide (Asd.refl _ _ _)⟩
        case round =>
          obtain ⟨j, sj, hj, rfl, RQ, HJ, AJ⟩ := hrel
          have AJ1 := hide (show Asd A1 base W1 wr from (unhide A5S).trans ((unhide AJ).sub (unhide A15)))
          by_cases hjm : j < m
          · have y0 : (0 : Int) ≤ (j : Int) := by omega
            have y1 : (j : Int) < (m : Int) := by omega
            have hjl : j < fs.length := by rw [unhide FM]; exact hjm
            obtain ⟨g, rfl, hg1, hg2, c0, c1⟩ := (unhide OF).at_ j hjl
            have AG := hide (unhide AF g rfl (by omega))
            have p0 := (World.cell?_of_block (a := ⟨g, j * 2, none⟩) ((unhide AJ).av g (unhide AG))).trans c0
            have p1 := (World.cell?_of_block (a := ⟨g, j * 2 + 1, none⟩) ((unhide AJ).av g (unhide AG))).trans c1
            have DR := hide (List.drop_eq_getElem_cons hjl)
            have f64 := unhide FIN _ (List.getElem_mem hjl)
            generalize fs[j] = f at *
            obtain ⟨fn, fi⟩ := f
            dsimp only at p0 p1 f64
            have U6 := hide ((Below.refl wr.heap.size wr).alloc (Nat.le_refl _) (.cells #[.string (str fn), .int .i64 (fi : Int)] 111))
            have X6 := hide (heap_new wr (.cells #[.string (str fn), .int .i64 (fi : Int)] 111))
            have H6 := hide ((unhide HJ).later (unhide U6))
            have AJ6 := hide ((unhide AJ).trans (Asd.of (fun g hg => (unhide HJ).lt hg) (unhide HJ).le (unhide U6)))
            have XK := hide (show ∀ W, Asd A5 base V5 W → W.cell? ⟨K, 1, none⟩ = some (.int .i64 (k : Int)) from fun W hw => box_cell ((((unhide A5S).trans (hw.sub (unhide A15))).av K (unhide AK)).trans (unhide X1)) 1 _ rfl)
            have x0 := box_cell (unhide X6) 0 _ rfl
            have x1 := box_cell (unhide X6) 1 _ rfl
            have x2 := unhide XK _ (unhide AJ6)
            have NF := hide (show (str fn).data.toList = fn from rfl)
            have NFS := hide (show (str fn).size ≤ maxLen by rw [str_size]; simp only [maxLen]; omega)
            clear c0 c1
            generalize str fn = sn at *
            by_cases hki : k ≤ fi
            · have y2 : (k : Int) ≤ (fi : Int) := by omega
              have R7 := hide (show remL k (fs.drop (j + 1)) sj = remL k fs s3 from by
                rw [← unhide RQ, unhide DR]
                show _ = (if k ≤ fi then remL k (fs.drop (j + 1)) sj else _)
                rw [if_pos hki])
              go_wp2
              exact ⟨⟨j + 1, sj, by omega, by go_num, R7, H6, AJ6⟩, by simp [intOf]; omega⟩
            · have y2 : ¬ (k : Int) ≤ (fi : Int) := by omega
              have RC := hide (aremove_calls (unhide H6) sn (unhide NFS))
              rw [unhide NF] at RC
              have R7 := hide (show (if (dRemove fn sj).1 ≠ 0 then dRemove fn sj else remL k (fs.drop (j + 1)) (dRemove fn sj).2) = remL k fs s3 from by
                rw [← unhide RQ, unhide DR]
                show _ = (if k ≤ fi then _ else if (dRemove fn sj).1 ≠ 0 then dRemove fn sj else remL k (fs.drop (j + 1)) (dRemove fn sj).2)
                rw [if_neg hki])
              generalize dRemove fn sj = q7 at *
              obtain ⟨e7, s7⟩ := q7
              dsimp only at R7
              go_wp2_with fail
              clear p0 p1 x0 x1 x2
              generalize wr.alloc _ = W6 at *
              go_at_call 69
              refine (unhide RC).mono ?_
              rintro e V7 ⟨rfl, h7, a7⟩
              dsimp only at h7
              by_cases hz7 : e7 = 0
              · subst hz7
                rw [if_neg (by simp)] at R7
                have H7 := hide h7
                have A7S := hide ((unhide AJ6).trans a7)
                clear h7 a7 RC FE
                dsimp only
                rw [show ((0 : Nat) : Int) = 0 from rfl]
                go_wp2
                exact ⟨⟨j + 1, s7, by omega, by go_num, R7, H7, A7S⟩, by simp [intOf]; omega⟩
              · have y3 : ¬ (e7 : Int) = 0 := by omega
                have y4 : ((e7 : Int) == 0) = false := by simp [hz7]
                rw [if_pos hz7] at R7
                have FF := hide (unhide FE (e7, s7) V7 (by rw [unhide SK1, unhide R7]) (h7.av (unhide A15)) ((unhide A5S).trans (((unhide AJ6).trans a7).sub (unhide A15))))
                dsimp only at FF ⊢
                generalize (e7 : Int) = ei at *
                clear h7 a7 FE RC
                go_wp2
                go_ret
                exact unhide FF
          · obtain rfl : j = m := by omega
            have y1 : ¬ (j : Int) < (j : Int) := by omega
            have R8 := hide (show remL k fs s3 = (0, sj) from by
              rw [← unhide RQ, List.drop_of_length_le (by rw [unhide FM]; exact Nat.le_refl _)]
              rfl)
            have FF := hide (unhide FE (0, sj) wr (by rw [unhide SK1, unhide R8]) ((unhide HJ).av (unhide A15)) (unhide AJ1))
            dsimp only at FF
            rw [show ((0 : Nat) : Int) = 0 from rfl] at FF
            clear FE
            go_wp2
            go_ret
            exact unhide FF
      · have y1 : ¬ (e3 : Int) = 0 := by omega
        have y2 : ((e3 : Int) == 0) = false := by simp [hz3]
        rw [if_pos hz3] at SK1
        have FF := hide (unhide FE (e3, s3) V3 (unhide SK1) h3 ((unhide A2S).trans a3))
        dsimp only at FF ⊢
        generalize (e3 : Int) = ei at *
        clear h3 a3 FE
        go_wp2
        go_ret
        exact unhide FF
    · have y1 : ¬ (e2 : Int) = 0 := by omega
      have y2 : ((e2 : Int) == 0) = false := by simp [hz2]
      rw [if_pos hz2] at SK1
      have FF := hide (unhide FE (e2, s2) V2 (unhide SK1) h2 ((unhide A1S).trans a2))
      dsimp only at FF ⊢
      generalize (e2 : Int) = ei at *
      clear h2 a2 FE
      go_wp2
      go_ret
      exact unhide FF
  · have y1 : ¬ (e1 : Int) = 0 := by omega
    have y2 : ((e1 : Int) == 0) = false := by simp [hz1]
    rw [if_pos hz1] at SK1
    have FF := hide (unhide FE (e1, s1) V1 (unhide SK1) h1 a1)
    dsimp only at FF ⊢
    generalize (e1 : Int) = ei at *
    clear h1 a1 FE WC
    go_wp2
    go_ret
    exact unhide FF
end Go.Proofs.YtagncghpfdjkmaaGreatDoor
end
