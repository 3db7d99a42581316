/- Conf: a map's names, sorted. -/
import Derived.Test.YtpkpnedcecjlbaaGreatDoorB18
import Derived.Test.YtpkpnedcecjlbaaGreatDoorB19
import Derived.Test.YtpkpnedcecjlbaaGreatDoorB02
import Derived.Test.YtpkpnedcecjlbaaGreatDoorB06
import Derived.Test.YtpkpnedcecjlbaaGreatDoorB12
import Derived.Test.YtpkpnedcecjlbaaGreatDoorB08
import Derived.Test.YtpkpnedcecjlbaaGreatDoorB15
section
namespace Go.Proofs.YtpkpnedcecjlbaaGreatDoor
open Go.ChangeShapes Go.WideShapes Go.ChangeAt Go.RowKit Go.Maps Go.Shelf Go.Sort
set_option linter.unusedVariables false

theorem MapG.keysS {w : World} {B : Nat} {fs : List (ByteArray × Value)} (h : MapG kxS w B fs) : ∃ D : DataW Value, w.ownsMap Tryz.prog 9 valElem B fs.length D ∧ Maps.size D = fs.length ∧ ∀ ss : List (List UInt8), ss.Perm (strKeys D) → ss.mergeSort (fun x y => decide (x ≤ y)) = fs.map (fun x => x.1.data.toList) := by
  obtain ⟨D, hD, hH, hA, hS⟩ := h.map
  refine ⟨D, hD, hS, fun ss hp => ?_⟩
  obtain ⟨es, rfl, hke⟩ := hD.keysOf
  obtain ⟨es', e', ht⟩ := hD.tidy kxS.law
  obtain rfl : es = es' := by simpa using e'
  have hk2 : ∀ p ∈ es, ∃ x, p.1 = .string x := fun p hp => by
    obtain ⟨key, hk⟩ := hke p hp
    obtain ⟨x, _, hx, _⟩ := Maps.keyOf_str Tryz.underlying9 hk
    exact ⟨x, hx⟩
  have hinj : ∀ a b : ByteArray × Value, a.1.data.toList = b.1.data.toList → a.1 = b.1 := fun a b e => bytes_ext e
  have hnd : (fs.map (fun x => x.1.data.toList)).Nodup := by
    rw [List.Nodup, List.pairwise_map]
    refine List.Pairwise.imp ?_ (show fs.Pairwise (fun x y => Kord.lt x.1 y.1) from h.rise)
    intro a b hab e
    rw [hinj a b e] at hab
    exact Kord.irr _ hab
  have hq : (fs.map (fun x => x.1.data.toList)).Perm (strKeys (.map es)) := by
    refine perm_strKeys ht hk2 hnd (fun x => ?_)
    constructor
    · intro hx
      obtain ⟨y, hy, rfl⟩ := List.mem_map.1 hx
      exact (hH y.1 (h.okk y hy)).2 (List.mem_map.2 ⟨y, hy, rfl⟩)
    · intro hx
      have hex : ∃ p ∈ es, p.1 = .string x := by
        rw [Maps.has_eq, List.any_eq_true] at hx
        obtain ⟨p, hp1, hp2⟩ := hx
        obtain ⟨a, ha⟩ := hk2 p hp1
        rw [ha] at hp2
        simp [Lit.sameKey] at hp2
        exact ⟨p, hp1, by rw [ha, hp2]⟩
      obtain ⟨p, hp1, hp2⟩ := hex
      obtain ⟨key, hk⟩ := hke p hp1
      obtain ⟨s, hs, _, hl⟩ := kxS.inv hk
      rw [hp2] at hl
      have e : x = s.data.toList := by simpa [kxS] using hl
      have h3 := (hH s hs).1 (by show Maps.has _ (.string s.data.toList) = true; rw [← e]; exact hx)
      obtain ⟨y, hy, hy2⟩ := List.mem_map.1 h3
      exact List.mem_map.2 ⟨y, hy, by rw [hy2, e]⟩
  have h1 := mergeSort_of_perm (hp.trans hq.symm)
  refine h1.trans (List.mergeSort_of_pairwise ?_)
  refine List.pairwise_map.2 (List.Pairwise.imp (fun {a b} hab => ?_) (show fs.Pairwise (fun x y => Kord.lt x.1 y.1) from h.rise))
  simp only [leB, decide_eq_true_eq]
  exact List.le_of_lt hab
/-- A row of names of one's own. -/
def OwnSt (base : Nat) (w : World) (sp : Option Addr) (c : Nat) (l : List ByteArray) : Prop := w.ownsRow base 9 1 (.slice sp l.length c) l.length (l.map Value.string)
theorem OwnSt.cell {base : Nat} {w : World} {sp : Option Addr} {c : Nat} {l : List ByteArray} (h : OwnSt base w sp c l) (i : Nat) (hi : i < l.length) : ∃ g, sp = some ⟨g, 0, none⟩ ∧ base ≤ g ∧ g < w.heap.size ∧ ∀ w' : World, w'.heap[g]? = w.heap[g]? → w'.cell? ⟨g, i, none⟩ = some (.string l[i]) := by
  rcases h.2 with ⟨hv, h0⟩ | ⟨g, cap, cur, hv, hb, hg, hle, hmx, hsz, ht⟩
  · omega
  · simp only [Value.slice.injEq] at hv
    refine ⟨g, hv.1, hb, (Array.getElem?_eq_some_iff.1 hg).1, fun w' hw => ?_⟩
    rw [cell_of_row w' g i cur _ _ (hw.trans hg)]
    have e : (l.map Value.string)[i]? = some (.string l[i]) := by rw [List.getElem?_map, List.getElem?_eq_getElem hi]; rfl
    rw [← ht, List.getElem?_take, if_pos (by omega)] at e
    rw [← Array.getElem?_toList, e]
theorem keysS_calls (b : Nat) (w : World) : Calls Tryz.prog 49 #[.map (some b)] w fun e w' => e = .returned (.func (.func 77) #[] #[.pointer (some ⟨w.heap.size, 0, none⟩)]) ∧ w' = w.alloc (.cells #[.map (some b)] 82) :=
  callsIn_wide.1 (Tryz.maps_Keys_49 (some b) w)
theorem sortedS_calls {w : World} {fs : List (ByteArray × Value)} {b : Nat} (h : MapG kxS w b fs) (hl : fs.length ≤ 1000) :
    Calls Tryz.prog 48 #[.func (.func 77) #[] #[.pointer (some ⟨w.heap.size, 0, none⟩)]] (w.alloc (.cells #[.map (some b)] 82)) fun e w' => ∃ sp c, e = .returned (.slice sp fs.length c) ∧ OwnSt w.heap.size w' sp c (fs.map (·.1)) ∧ Below w.heap.size w w' := by
  obtain ⟨D, hD, hS, hK⟩ := h.keysS
  refine (callsIn_wide.1 (Tryz.slices_Sorted_keys_48_49 b _ D valElem w hD (by rw [hS]; simp only [maxLen]; omega) (by rw [hS]; omega))).mono ?_
  rintro e w' ⟨v, ss, rfl, hp, hrow, hnil, hb⟩
  have hm := hK ss hp
  rw [hm] at hrow
  have hlen : ss.length = fs.length := by have := congrArg List.length hm; rw [List.length_mergeSort, List.length_map] at this; exact this
  rw [hlen] at hrow
  have e1 : (fs.map (fun x => x.1.data.toList)).map encStr = (fs.map (·.1)).map Value.string := by
    rw [List.map_map, List.map_map]
    exact List.map_congr_left fun x _ => by simp [encStr]
  rw [e1] at hrow
  have b1 : Below w.heap.size w (w.alloc (.cells #[.map (some b)] 82)) := (Below.refl _ _).alloc (Nat.le_refl _) _
  have hv : ∃ sp c, v = .slice sp fs.length c := by
    rcases hrow.2 with ⟨hv, h0⟩ | ⟨g, cap, cur, hv, _⟩
    · exact ⟨none, 0, by rw [hv, h0]⟩
    · exact ⟨_, _, hv⟩
  obtain ⟨sp, c, rfl⟩ := hv
  refine ⟨sp, c, rfl, ?_, b1.trans (hb.mono b1.size)⟩
  unfold OwnSt
  rw [List.length_map]
  exact ⟨hrow.1, hrow.2.imp id (fun ⟨g, cap, cur, h1, h2, h3⟩ => ⟨g, cap, cur, h1, Nat.le_trans b1.size h2, h3⟩)⟩
end Go.Proofs.YtpkpnedcecjlbaaGreatDoor
end
/- Conf: numbers and texts appended to bytes of one's own. -/
section
namespace Go.Proofs.YtpkpnedcecjlbaaGreatDoor
open Go.ChangeShapes Go.WideShapes Go.ChangeAt Go.RowKit
set_option linter.unusedVariables false

theorem numB_sixK : ∀ (f n : Nat), n < 128 ^ (f + 1) → (numB n).length ≤ f + 1
  | 0, n, h => by have : n < 128 := by omega
                  rw [numB_small this]; simp
  | f + 1, n, h => by
    by_cases h1 : n < 128
    · rw [numB_small h1]; simp
    · rw [numB_great h1, List.length_cons]
      have := numB_sixK f (n / 128) (by rw [Nat.pow_succ] at h; omega)
      omega
theorem numB_len6 (n : Nat) (h : n ≤ 1099511627776) : (numB n).length ≤ 6 :=
  numB_sixK 5 n (by have : (128 : Nat) ^ (5 + 1) = 4398046511104 := rfl; omega)
def numsB (ns : List Nat) : List Nat := ns.flatMap numB
def txB (s : ByteArray) : List Nat := numB s.size ++ bsT s
def txsB (ts : List ByteArray) : List Nat := ts.flatMap txB
theorem flat_take {α : Type} (f : α → List Nat) (l : List α) (j : Nat) (h : j < l.length) : (l.take (j + 1)).flatMap f = (l.take j).flatMap f ++ f l[j] := by
  rw [List.take_succ_eq_append_getElem h, List.flatMap_append]; simp
theorem flat_le {α : Type} (f : α → List Nat) (k : Nat) : ∀ (l : List α), (∀ x ∈ l, (f x).length ≤ k) → (l.flatMap f).length ≤ k * l.length
  | [], _ => by simp
  | x :: r, h => by
    rw [List.flatMap_cons, List.length_append, List.length_cons]
    have h1 := h x List.mem_cons_self
    have h2 := flat_le f k r (fun y hy => h y (List.mem_cons_of_mem _ hy))
    rw [Nat.mul_add, Nat.mul_one]
    omega
theorem txB_len (s : ByteArray) (h : s.size ≤ 1099511627776) : (txB s).length ≤ s.size + 6 := by
  unfold txB
  rw [List.length_append, bsT_len]
  have := numB_len6 s.size h
  omega
/-- Numbers in a block of their own. -/
def nsRow (ns : List Nat) : Array Value := (ns.map (fun (n : Nat) => Value.int .i64 (n : Int))).toArray
theorem nsRow_at (ns : List Nat) (j : Nat) (h : j < ns.length) : (nsRow ns)[j]? = some (.int .i64 (ns[j] : Int)) := by
  unfold nsRow
  simp [h]
theorem OwnB.ne {base : Nat} {w : World} {sp : Option Addr} {c : Nat} {l : List Nat} (h : OwnB base w sp c l) {B : Nat} {cs : Array Value} {T : TypeId} {fr : Nat × Nat} (hB : w.heap[B]? = some (.cells cs T fr)) (hT : T ≠ 5) : blk sp ≠ some B := by
  intro e
  rcases h.owns.2 with ⟨hv, h0⟩ | ⟨g, cap, cur, hv, _, hg, _⟩
  · simp only [Value.slice.injEq] at hv
    rw [hv.1] at e; cases e
  · simp only [Value.slice.injEq] at hv
    rw [hv.1] at e
    simp only [blk, Option.map_some, Option.some.injEq] at e
    rw [e, hB] at hg
    simp only [Option.some.injEq, Obj.cells.injEq] at hg
    exact hT hg.2.1
theorem OwnB.cap0 {base : Nat} {w : World} {sp : Option Addr} {c : Nat} {l : List Nat} (h : OwnB base w sp c l) : sp = none → c = 0 := by
  intro e
  rcases h.owns.2 with ⟨hv, h0⟩ | ⟨g, cap, cur, hv, _⟩
  · simp only [Value.slice.injEq] at hv
    exact hv.2.2
  · simp only [Value.slice.injEq] at hv
    rw [hv.1] at e; cases e
theorem OwnB.some_ {base : Nat} {w : World} {sp : Option Addr} {c : Nat} {l : List Nat} (h : OwnB base w sp c l) (hl : 0 < l.length) : sp ≠ none := by
  rcases h.owns.2 with ⟨hv, h0⟩ | ⟨g, cap, cur, hv, _⟩
  · omega
  · simp only [Value.slice.injEq] at hv
    rw [hv.1]; simp
theorem tyne : (3 : TypeId) ≠ 5 ∧ (9 : TypeId) ≠ 5 := by decide
set_option maxRecDepth 20000 in
set_option maxHeartbeats 4000000 in
theorem addNumbers_calls (base : Nat) {w : World} {sp : Option Addr} {n0 c : Nat} {l : List Nat} (hn0 : l.length = n0) (hown : OwnB base w sp c l) (B m mc : Nat) (ns : List Nat) (hm : ns.length = m) (hB : w.heap[B]? = some (.cells (nsRow ns) 3 (0, 0)))
    (hns : ∀ n ∈ ns, n ≤ 1099511627776) (hsz : l.length + 6 * m ≤ 140737488355328) (hm2 : m ≤ 1000) (hbase : base ≤ w.heap.size) :
    Calls Tryz.prog 24 #[.slice sp n0 c, .slice (some ⟨B, 0, none⟩) m mc] w fun e w' => ∃ sp' n' c', e = .returned (.slice sp' n' c') ∧ Hid ((l ++ numsB ns).length = n') ∧ OwnB base w' sp' c' (l ++ numsB ns) ∧ Grew w sp w' sp' := by
  have HO := hide hown
  have HN := hide hn0
  have HM := hide hm
  have HB := hide hB
  have HNE := hide (hown.ne hB tyne.1)
  have HNS := hide hns
  have LE := hide (show ∀ j, ((ns.take j).flatMap numB).length ≤ 6 * m from fun j => by
    have h1 := flat_le numB 6 (ns.take j) (fun x hx => numB_len6 x (hns x (List.mem_of_mem_take hx)))
    have h2 : (ns.take j).length ≤ m := by rw [← hm, List.length_take]; omega
    omega)
  clear hown hn0 hm hB hns
  go_enter Tryz.func24, Tryz.ntmps24
  go_wp2
  go_loopw [0, 11] (fun v i wr => ∃ (j : Nat) (sp' : Option Addr) (n' c' : Nat), j ≤ m ∧ v = .slice sp' n' c' ∧ i = .int .i64 (j : Int) ∧ Hid ((l ++ (ns.take j).flatMap numB).length = n') ∧ Hid (OwnB base wr sp' c' (l ++ (ns.take j).flatMap numB)) ∧ Hid (Grew w sp wr sp')) (fun _ i _ => m - (intOf i).toNat)
  case atStart => exact ⟨0, sp, n0, c, by omega, rfl, rfl, hide (by simpa using unhide HN), hide (by simpa using unhide HO), Grew.refl _ _⟩
  case round =>
    obtain ⟨j, sp', n', c', hj, rfl, rfl, hl', ho', hg'⟩ := hrel
    by_cases hjm : j < m
    · have y0 : (0 : Int) ≤ (j : Int) := by omega
      have y1 : (j : Int) < (m : Int) := by omega
      have hjl : j < ns.length := by rw [unhide HM]; exact hjm
      have hBr := Grew.block (unhide hg') (unhide HB) (unhide HNE)
      have p0 := box_cell hBr j _ (nsRow_at ns j hjl)
      have hx := unhide HNS ns[j] (List.getElem_mem hjl)
      have FT := hide (flat_take numB ns j hjl)
      generalize ns[j] = x at *
      have hs1 := hide (show (l ++ (ns.take j).flatMap numB).length + (numB x).length ≤ 140737488355328 by
        have := unhide LE (j + 1)
        rw [unhide FT, List.length_append] at this
        rw [List.length_append]; omega)
      have hbr : base ≤ wr.heap.size := Nat.le_trans hbase (unhide hg').grown.size
      clear hBr
      go_wp2_with fail
      refine (number_yes x wr hx).mono ?_
      rintro e V ⟨xp, xn, xc, rfl, hxn, hxo, hxb⟩
      have ho2 := hide ((unhide ho').later hxb)
      have HV := hide hxb
      have XB := hide hxo.bytes
      have X0 := hide hxo.cap0
      have hvs : base ≤ V.heap.size := Nat.le_trans hbr hxb.size
      have hs2 := hide (show (l ++ (ns.take j).flatMap numB).length + xn ≤ 140737488355328 by rw [← unhide hxn]; exact unhide hs1)
      clear hxb hxo hx
      go_wp2_with (at_builtin; refine wpList_append8L rfl (.tmp 20) (.tmp 21) rfl base sp' n' c' _ rfl (unhide hl') (unhide ho2) xp xn xc rfl (numB x) (unhide hxn) (unhide XB) (unhide X0) (unhide hs2) hvs ?_; intro sp2 n2 c2 W2 hn2 ho3 hg2 hb2; rw [List.append_assoc, ← unhide FT] at hn2 ho3; have HO3 := hide ho3; clear ho3)
      have hbn := hide ((unhide hg').trans (Grew.aside (unhide HV) ⟨hg2, hb2⟩))
      exact ⟨⟨j + 1, sp2, n2, c2, by omega, rfl, by go_num, by first | exact hn2 | exact hide (by rw [List.length_append]; exact unhide hn2), unhide HO3, unhide hbn⟩, by simp [intOf]; omega⟩
    · have hjj : ¬ (j : Int) < (m : Int) := by omega
      have E := hide (show (ns.take j).flatMap numB = numsB ns by rw [List.take_of_length_le (by rw [unhide HM]; omega)]; rfl)
      go_wp2
      go_ret
      exact ⟨sp', n', c', rfl, hide (by rw [← unhide E]; simpa using unhide hl'), by rw [← unhide E]; exact unhide ho', unhide hg'⟩
end Go.Proofs.YtpkpnedcecjlbaaGreatDoor
end
/- Conf: texts, weights, targets appended to bytes of one's own. -/
section
namespace Go.Proofs.YtpkpnedcecjlbaaGreatDoor
open Go.ChangeShapes Go.WideShapes Go.ChangeAt Go.RowKit
set_option linter.unusedVariables false

def tsRow (ts : List ByteArray) : Array Value := (ts.map Value.string).toArray
theorem tsRow_at (ts : List ByteArray) (j : Nat) (h : j < ts.length) : (tsRow ts)[j]? = some (.string ts[j]) := by
  unfold tsRow
  simp [h]
set_option maxRecDepth 20000 in
set_option maxHeartbeats 4000000 in
theorem addTexts_calls (base : Nat) {w : World} {sp : Option Addr} {n0 c : Nat} {l : List Nat} (hn0 : l.length = n0) (hown : OwnB base w sp c l) (B m mc : Nat) (ts : List ByteArray) (hm : ts.length = m) (hB : w.heap[B]? = some (.cells (tsRow ts) 9 (0, 0)))
    (hts : ∀ t ∈ ts, t.size ≤ 1000000) (hsz : l.length + 1000006 * m ≤ 140737488355328) (hm2 : m ≤ 1000) (hbase : base ≤ w.heap.size) :
    Calls Tryz.prog 25 #[.slice sp n0 c, .slice (some ⟨B, 0, none⟩) m mc] w fun e w' => ∃ sp' n' c', e = .returned (.slice sp' n' c') ∧ Hid ((l ++ txsB ts).length = n') ∧ OwnB base w' sp' c' (l ++ txsB ts) ∧ Grew w sp w' sp' := by
  have HO := hide hown
  have HN := hide hn0
  have HM := hide hm
  have HB := hide hB
  have HNE := hide (hown.ne hB tyne.2)
  have HNS := hide hts
  have LE := hide (show ∀ j, ((ts.take j).flatMap txB).length ≤ 1000006 * m from fun j => by
    have h1 := flat_le txB 1000006 (ts.take j) (fun x hx => by
      have h2 := hts x (List.mem_of_mem_take hx)
      have := txB_len x (by omega)
      omega)
    have h2 : (ts.take j).length ≤ m := by rw [← hm, List.length_take]; omega
    omega)
  clear hown hn0 hm hB hts
  go_enter Tryz.func25, Tryz.ntmps25
  go_wp2
  go_loopw [0, 9] (fun v i wr => ∃ (j : Nat) (sp' : Option Addr) (n' c' : Nat), j ≤ m ∧ v = .slice sp' n' c' ∧ i = .int .i64 (j : Int) ∧ Hid ((l ++ (ts.take j).flatMap txB).length = n') ∧ Hid (OwnB base wr sp' c' (l ++ (ts.take j).flatMap txB)) ∧ Hid (Grew w sp wr sp')) (fun _ i _ => m - (intOf i).toNat)
  case atStart => exact ⟨0, sp, n0, c, by omega, rfl, rfl, hide (by simpa using unhide HN), hide (by simpa using unhide HO), Grew.refl _ _⟩
  case round =>
    obtain ⟨j, sp', n', c', hj, rfl, rfl, hl', ho', hg'⟩ := hrel
    by_cases hjm : j < m
    · have y0 : (0 : Int) ≤ (j : Int) := by omega
      have y1 : (j : Int) < (m : Int) := by omega
      have hjl : j < ts.length := by rw [unhide HM]; exact hjm
      have hBr := Grew.block (unhide hg') (unhide HB) (unhide HNE)
      have p0 := box_cell hBr j _ (tsRow_at ts j hjl)
      have hx := unhide HNS ts[j] (List.getElem_mem hjl)
      have FT := hide (flat_take txB ts j hjl)
      generalize ts[j] = x at *
      have LJ := hide (show (l ++ (ts.take j).flatMap txB).length + 6 + x.size ≤ 140737488355328 by
        have h1 := unhide LE j
        have h2 : 1000006 * (j + 1) ≤ 1000006 * m := Nat.mul_le_mul_left _ (by omega)
        have h3 : ((ts.take j).flatMap txB).length ≤ 1000006 * j := by
          have h1 := flat_le txB 1000006 (ts.take j) (fun x hx => by
            have h2 := unhide HNS x (List.mem_of_mem_take hx)
            have := txB_len x (by omega)
            omega)
          have h2 : (ts.take j).length ≤ j := by rw [List.length_take]; omega
          omega
        rw [List.length_append]; omega)
      have hbr : base ≤ wr.heap.size := Nat.le_trans hbase (unhide hg').grown.size
      have X1 := hide (show (wr.alloc (.cells (nsRow [x.size]) 3)).heap[wr.heap.size]? = some (.cells (nsRow [x.size]) 3 (0, 0)) from heap_new wr (.cells (nsRow [x.size]) 3))
      have bA := hide (show Below wr.heap.size wr (wr.alloc (.cells (nsRow [x.size]) 3)) from (Below.refl _ _).alloc (Nat.le_refl _) _)
      have CN := hide (addNumbers_calls base (unhide hl') ((unhide ho').later (unhide bA)) wr.heap.size 1 1 [x.size] rfl (unhide X1) (by intro n hn; simp at hn; omega) (by have := unhide LJ; omega) (by omega) (Nat.le_trans hbr (unhide bA).size))
      have hxs : x.size ≤ 1000000 := hx
      rw [show nsRow [x.size] = #[.int .i64 (x.size : Int)] from rfl] at CN X1 bA
      clear hBr hx
      go_wp2_with fail
      refine (unhide CN).mono ?_
      rintro e V ⟨s1, m1, c1, rfl, hn1, ho1, hg1⟩
      have hV := hide (Grew.aside (unhide bA) hg1)
      have hvs : base ≤ V.heap.size := Nat.le_trans hbr (unhide hV).grown.size
      have HO1 := hide ho1
      have hne1 := hide (ho1.some_ (by rw [List.length_append]; have := (numB_length x.size).1; simp [numsB]; omega))
      have hs2 := hide (show m1 + x.size ≤ 140737488355328 by
        rw [← unhide hn1, List.length_append]
        have h1 := unhide LJ
        have h2 := numB_len6 x.size (by omega)
        simp [numsB]
        simp at h1
        omega)
      clear ho1 hg1 CN
      go_wp2_with (at_builtin; refine wpList_appendS8 rfl (.tmp 17) (.tmp 18) rfl s1 m1 c1 _ rfl (unhide hn1) (unhide HO1) (unhide hne1) x rfl (unhide hs2) hvs ?_; intro sp2 n2 c2 W2 hn2 ho3 hg2 hnn; rw [List.append_assoc, List.append_assoc, show numsB [x.size] ++ bsT x = txB x by simp [numsB, txB], ← unhide FT] at hn2 ho3; have HO3 := hide ho3; clear ho3)
      have hbn := hide ((unhide hg').trans ((unhide hV).trans hg2))
      exact ⟨⟨j + 1, sp2, n2, c2, by omega, rfl, by go_num, by first | exact hn2 | exact hide (by rw [List.length_append]; exact unhide hn2), unhide HO3, unhide hbn⟩, by simp [intOf]; omega⟩
    · have hjj : ¬ (j : Int) < (m : Int) := by omega
      have E := hide (show (ts.take j).flatMap txB = txsB ts by rw [List.take_of_length_le (by rw [unhide HM]; omega)]; rfl)
      go_wp2
      go_ret
      exact ⟨sp', n', c', rfl, hide (by rw [← unhide E]; simpa using unhide hl'), by rw [← unhide E]; exact unhide ho', unhide hg'⟩
end Go.Proofs.YtpkpnedcecjlbaaGreatDoor
end
/- Conf: weights, targets, pools, routes appended to bytes of one's own. -/
section
namespace Go.Proofs.YtpkpnedcecjlbaaGreatDoor
open Go.ChangeShapes Go.WideShapes Go.ChangeAt Go.RowKit
set_option linter.unusedVariables false

/-- A weight's bytes: the highest first. -/
def wtBy (x : Nat) : List Nat := (List.range 8).map (fun k => x / 2 ^ (56 - 8 * k) % 256)
theorem wtBy_len (x : Nat) : (wtBy x).length = 8 := by simp [wtBy]
theorem wtBy_take (x j : Nat) (h : j < 8) : (wtBy x).take (j + 1) = (wtBy x).take j ++ [x / 2 ^ (56 - 8 * j) % 256] := by
  rw [List.take_succ_eq_append_getElem (by rw [wtBy_len]; exact h)]
  simp [wtBy]
theorem shr_byte (x s : Nat) : ((x : Int) / 2 ^ s) % 256 = ((x / 2 ^ s % 256 : Nat) : Int) := by
  have : ((x / 2 ^ s : Nat) : Int) = (x : Int) / 2 ^ s := by simp
  rw [← this]
  omega
set_option maxRecDepth 20000 in
set_option maxHeartbeats 4000000 in
theorem addWeight_calls (base : Nat) {w : World} {sp : Option Addr} {n0 c : Nat} {l : List Nat} (hn0 : l.length = n0) (hown : OwnB base w sp c l) (x : Nat) (hx : x < 18446744073709551616) (hsz : l.length + 8 ≤ 140737488355328) (hbase : base ≤ w.heap.size) :
    Calls Tryz.prog 56 #[.slice sp n0 c, .float .f64 x] w fun e w' => ∃ sp' n' c', e = .returned (.slice sp' n' c') ∧ Hid ((l ++ wtBy x).length = n') ∧ OwnB base w' sp' c' (l ++ wtBy x) ∧ Grew w sp w' sp' := by
  have HO := hide hown
  have HN := hide hn0
  have hbits := cbits_call x
  have LE := hide (show ∀ j, ((wtBy x).take j).length ≤ 8 from fun j => by have := wtBy_len x; rw [List.length_take]; omega)
  clear hown hn0
  go_enter Tryz.func56, Tryz.ntmps56
  go_wp2_with fail
  go_loopw [0, 6] (fun v i wr => ∃ (j : Nat) (sp' : Option Addr) (n' c' : Nat), j ≤ 8 ∧ v = .slice sp' n' c' ∧ i = .int .i64 (56 - 8 * (j : Int)) ∧ Hid ((l ++ (wtBy x).take j).length = n') ∧ Hid (OwnB base wr sp' c' (l ++ (wtBy x).take j)) ∧ Hid (Grew w sp wr sp')) (fun _ i _ => (intOf i + 8).toNat)
  case atStart => exact ⟨0, sp, n0, c, by omega, rfl, rfl, hide (by simpa using unhide HN), hide (by simpa using unhide HO), Grew.refl _ _⟩
  case round =>
    obtain ⟨j, sp', n', c', hj, rfl, rfl, hl', ho', hg'⟩ := hrel
    by_cases hjm : j < 8
    · obtain ⟨s, hs⟩ : ∃ s : Nat, s = 56 - 8 * j := ⟨_, rfl⟩
      have hsi : 56 - 8 * (j : Int) = (s : Int) := by omega
      have hnx := hide (show (s : Int) - 8 = 56 - 8 * ((j + 1 : Nat) : Int) by omega)
      have y0 : (0 : Int) ≤ (s : Int) := by omega
      have y1 : (s : Int) ≤ 56 := by omega
      have y2 : s ≤ 64 := by omega
      have hmin : min s 64 = s := by omega
      have hby := shr_byte x s
      have HB := hide hby
      have FT := hide (wtBy_take x j hjm)
      rw [← hs] at FT
      have hw8 : IntKind.u8.wrap ((x : Int) / 2 ^ s) = ((x / 2 ^ s % 256 : Nat) : Int) := by rw [← hby, IntKind.wrap_u8]
      rw [hsi]
      have hq2 : x / 2 ^ s % 256 < 256 := Nat.mod_lt _ (by decide)
      generalize hq : x / 2 ^ s % 256 = q at *
      have hlit := hide (bytesAt_block (l := [q]) (heap_new wr (.cells #[.int .u8 (q : Int)] 5)) (by intro c hc; simp only [List.mem_cons, List.not_mem_nil, or_false] at hc; omega))
      have bA := hide (show Below wr.heap.size wr (wr.alloc (.cells #[.int .u8 (q : Int)] 5)) from (Below.refl _ _).alloc (Nat.le_refl _) _)
      have hbr : base ≤ wr.heap.size := Nat.le_trans hbase (unhide hg').grown.size
      have hs2 := hide (show (l ++ (wtBy x).take j).length + 1 ≤ 140737488355328 by
        rw [List.length_append]
        have : ((wtBy x).take j).length ≤ 7 := by rw [List.length_take]; omega
        omega)
      have hj1 : j + 1 ≤ 8 := by omega
      clear hs hsi hq hjm
      go_wp2_with (at_builtin; refine wpList_append8L rfl (.tmp 13) (.tmp 18) rfl base sp' n' c' _ rfl (unhide hl') (by exact (unhide ho').later (unhide bA)) (some ⟨wr.heap.size, 0, none⟩) 1 1 rfl [q] rfl (by exact unhide hlit) (fun h => by cases h) (unhide hs2) (Nat.le_trans hbr (unhide bA).size) ?_; intro sp2 n2 c2 W2 hn2 ho2 hg2 hb2; rw [List.append_assoc, ← unhide FT] at hn2 ho2; have HO2 := hide ho2; clear ho2)
      have hbn := hide ((unhide hg').trans (Grew.aside (unhide bA) ⟨hg2, hb2⟩))
      refine ⟨⟨j + 1, sp2, n2, c2, hj1, rfl, ?_, by first | exact hn2 | exact hide (by rw [List.length_append]; exact unhide hn2), unhide HO2, unhide hbn⟩, ?_⟩
      · first | (rw [unhide hnx]) | (rw [← unhide hnx]; go_num)
      · have hh := unhide hnx
        simp [intOf]
        omega
    · have hj8 : j = 8 := by omega
      have E := hide (show (wtBy x).take j = wtBy x from List.take_of_length_le (by rw [wtBy_len]; omega))
      have y0 : ¬ (0 : Int) ≤ 56 - 8 * (j : Int) := by omega
      clear hj8
      go_wp2
      go_ret
      exact ⟨sp', n', c', rfl, hide (by rw [← unhide E]; simpa using unhide hl'), by rw [← unhide E]; exact unhide ho', unhide hg'⟩
/-- The bytes of targets, of a pool, of a route, of a configuration. -/
def tgB (t : Tgt) : List Nat := txB t.1 ++ wtBy t.2
def tgsB (ts : List Tgt) : List Nat := numB ts.length ++ ts.flatMap tgB
def poolB (p : Po) : List Nat := txB p.nm ++ tgsB p.ts
def routeB (r : Rt) : List Nat := txB r.h ++ (txB r.p ++ txB r.l)
def confB (e : Cf) : List Nat := numB e.ps.length ++ (e.ps.flatMap poolB ++ (numB e.rs.length ++ e.rs.flatMap routeB))
end Go.Proofs.YtpkpnedcecjlbaaGreatDoor
end
