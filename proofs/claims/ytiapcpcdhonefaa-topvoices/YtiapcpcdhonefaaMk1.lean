/- Member: kinds of nodes, numbers that are picked, All. -/
import Derived.Test.YtiapcpcdhonefaaMbp
import Derived.Test.YtiapcpcdhonefaaApi
import Derived.Maps.OwnOps
namespace Go.Proofs.Ytiapcpcdhonefaa
open Go.ChangeShapes Go.WideShapes Go.ChangeAt Go.RowKit Go.Maps

/-- The kinds of nodes in memory: the map's block, how often it was stored into at most, what each number has. -/
structure KindAt (w : World) (B n : Nat) (f : Int → Int) : Prop where
  map : ∃ D : DataW Unit, w.ownsMap Try.prog 3 (plainElem Try.prog 50) B n D ∧ ∀ x, In64 x → D.atKey (.int .i64 x) (.lit (.int .i64 0)) = .lit (.int .i64 (f x))
theorem KindAt.kept {w w' : World} {B n : Nat} {f : Int → Int} {row : Option Nat} (h : KindAt w B n f) (hg : w.grownBy w' row) (hne : some B ≠ row) : KindAt w' B n f := by
  obtain ⟨D, h1, h2⟩ := h.map
  exact ⟨D, h1.kept hg hne, h2⟩
theorem KindAt.later {w w' : World} {B n : Nat} {f : Int → Int} (h : KindAt w B n f) (hb : Below w.heap.size w w') : KindAt w' B n f := h.kept (grown_below none hb) (by simp)
theorem KindAt.lt {w : World} {B n : Nat} {f : Int → Int} (h : KindAt w B n f) : B < w.heap.size := by
  obtain ⟨D, h1, _⟩ := h.map
  exact h1.lt
theorem KindAt.made (w : World) : KindAt (w.alloc (.map #[] 0)) w.heap.size 0 (fun _ => 0) :=
  ⟨_, World.ownsMap_made (H := Unit) w Try.prog 3 (plainElem Try.prog 50), fun _ _ => rfl⟩
theorem KindAt.congr {w : World} {B n : Nat} {f f' : Int → Int} (h : KindAt w B n f) (e : ∀ x, f x = f' x) : KindAt w B n f' := by
  have : f = f' := funext e
  exact this ▸ h
theorem KindAt.store {w : World} {B n : Nat} {f : Int → Int} (h : KindAt w B n f) (x c : Int) (hx : In64 x) (hc : In64 c) (hn : n < maxLen) : ∃ w', (Instr.mapUpdate 47 (.map (some B)) (.int .i64 x) (.int .i64 c)).run Try.prog w = .ok () w' ∧ KindAt w' B (n + 1) (upd f x c) ∧ w.grownBy w' (some B) := by
  obtain ⟨D, hD, hA⟩ := h.map
  obtain ⟨w', hrun, r1, r2⟩ := hD.update intLaw Try.underlying47 hn (key64 hx) (plainElem_int (H := Unit) Try.underlying50 (wf64 hc))
  have hmap := hD.isMap
  have hkey := intLaw.key (key64 hx)
  refine ⟨w', hrun, ⟨_, r1, fun y hy => ?_⟩, r2⟩
  by_cases e : y = x
  · subst e
    rw [atKey_put_same hmap hkey]
    simp [upd]
  · rw [atKey_put_other (fun e' => e (by simpa using e')), hA y hy]
    simp [upd, e]
theorem zeroK (w : World) : (zeroValue 50).run Try.prog w = .ok (.int .i64 0) w := by kernel_rfl
/-- What a node is: 1 a voter, 2 a learner, 0 none. -/
def kindM (v l : List Int) (x : Int) : Int := if x ∈ l then 2 else if x ∈ v then 1 else 0
section
variable {w : World} {va : Option Addr} {vc : Nat} {v : List Int} {la : Option Addr} {lc : Nat} {l : List Int}
set_option maxRecDepth 20000 in
set_option maxHeartbeats 4000000 in
theorem kinds_calls (hv : IntsAt w va v) (hl : IntsAt w la l) (vn ln : Nat) (hvn : v.length = vn) (hln : l.length = ln) (hvx : vn ≤ 9) (hlx : ln ≤ 9) :
    Calls Try.prog 11 #[mV va vn vc la ln lc] w fun e w' => ∃ B n, e = .returned (.map (some B)) ∧ n ≤ 18 ∧ KindAt w' B n (kindM v l) ∧ w.heap.size ≤ B ∧ Below w.heap.size w w' := by
  have hmm := @run_makeMap Try.prog
  have b1' : Below w.heap.size w (w.alloc (mB va vn vc la ln lc)) := (Below.refl _ _).alloc (Nat.le_refl _) _
  have b1 := hide (show Below w.heap.size w ((w.alloc (mB va vn vc la ln lc)).alloc (.map #[] 0)) from b1'.alloc b1'.size _)
  have V0 := hide hv
  have L0 := hide hl
  have X1 := hide (heap_old (.map #[] 0) (heap_new w (mB va vn vc la ln lc)))
  have Z1 : (w.alloc (mB va vn vc la ln lc)).heap.size = w.heap.size + 1 := by simp
  have T1 := hide (show KindAt ((w.alloc (mB va vn vc la ln lc)).alloc (.map #[] 0)) (w.heap.size + 1) 0 (fun _ => 0) from Z1 ▸ KindAt.made (w.alloc (mB va vn vc la ln lc)))
  have VN := hide hvn
  have LN := hide hln
  have c0 := box_cell (unhide X1) 0 _ rfl
  have c1 := box_cell (unhide X1) 1 _ rfl
  clear hv hl hvn hln b1' Z1
  go_enter Try.func11, Try.ntmps11
  go_wp2_with fail
  generalize hD : w.heap.size = D at *
  generalize (w.alloc (mB va vn vc la ln lc)).alloc (.map #[] 0) = w1 at *
  go_loopw [12] (fun i wr => ∃ (j : Nat), j ≤ vn ∧ i = .int .i64 (j : Int) ∧ Hid (KindAt wr (D + 1) j (fun x => if x ∈ v.take j then 1 else 0)) ∧ Hid (Below D w wr) ∧ Hid (wr.heap[D]? = some (mB va vn vc la ln lc))) (fun i _ => vn - (intOf i).toNat)
  case atStart => exact ⟨0, by omega, rfl, (unhide T1).congr (fun x => by simp), unhide b1, unhide X1⟩
  case round =>
    obtain ⟨j, hj, rfl, T, F, X⟩ := hrel
    have V2 := hide ((unhide V0).later (by rw [hD]; exact unhide F))
    by_cases hjm : j < vn
    · have hjl : j < v.length := by rw [unhide VN]; exact hjm
      obtain ⟨b, off, rfl, p0⟩ := (unhide V2).cell j hjl
      have hT := hide (List.take_succ_eq_append_getElem hjl)
      have hB := hide (show In64 v[j] from (unhide V0).bd _ (List.getElem_mem hjl))
      generalize v[j] = x at *
      obtain ⟨w2, hrun, t2, g2⟩ := (unhide T).store x 1 (unhide hB) (by constructor <;> decide) (by simp only [maxLen]; omega)
      have T2 := hide (show KindAt w2 (D + 1) (j + 1) (fun x => if x ∈ v.take (j + 1) then 1 else 0) from t2.congr (fun y => by
        rw [unhide hT]
        by_cases e : y = x
        · subst e; simp [upd]
        · simp [upd, e]))
      have F2 := hide ((unhide F).grown g2 (by have := (unhide F).size; omega) (fun g' hg' => by have := Option.some.inj hg'; omega))
      have X2 := hide ((g2.block D (Array.getElem?_eq_some_iff.1 (unhide X)).1 (fun e => by have := Option.some.inj e; omega)).trans (unhide X))
      have hj0 : (0 : Int) ≤ (j : Int) := by omega
      have hj1 : (j : Int) < (vn : Int) := by omega
      clear t2 g2
      go_wp2
      exact ⟨⟨j + 1, by omega, by go_num, unhide T2, unhide F2, unhide X2⟩, by simp [intOf]; omega⟩
    · obtain rfl : j = vn := by omega
      have T2 := hide (show KindAt wr (D + 1) j (fun x => if x ∈ l.take 0 then 2 else if x ∈ v then 1 else 0) from (unhide T).congr (fun x => by
        rw [List.take_of_length_le (by rw [unhide VN]; exact Nat.le_refl _)]
        simp))
      have d1 := box_cell (unhide X) 1 _ rfl
      clear T c0 c1 V2
      go_wp2_with fail
      go_loopw [22] (fun i wr' => ∃ (q : Nat), q ≤ ln ∧ i = .int .i64 (q : Int) ∧ Hid (KindAt wr' (D + 1) (j + q) (fun x => if x ∈ l.take q then 2 else if x ∈ v then 1 else 0)) ∧ Hid (Below D w wr')) (fun i _ => ln - (intOf i).toNat)
      case atStart => exact ⟨0, by omega, rfl, unhide T2, unhide F⟩
      case round =>
        obtain ⟨q, hq, rfl, T, F⟩ := hrel
        have L2 := hide ((unhide L0).later (by rw [hD]; exact unhide F))
        by_cases hqm : q < ln
        · have hql : q < l.length := by rw [unhide LN]; exact hqm
          obtain ⟨b, off, rfl, p0⟩ := (unhide L2).cell q hql
          have hT := hide (List.take_succ_eq_append_getElem hql)
          have hB := hide (show In64 l[q] from (unhide L0).bd _ (List.getElem_mem hql))
          generalize l[q] = x at *
          obtain ⟨w2, hrun, t2, g2⟩ := (unhide T).store x 2 (unhide hB) (by constructor <;> decide) (by simp only [maxLen]; omega)
          have T3 := hide (show KindAt w2 (D + 1) (j + (q + 1)) (fun x => if x ∈ l.take (q + 1) then 2 else if x ∈ v then 1 else 0) from t2.congr (fun y => by
            rw [unhide hT]
            by_cases e : y = x
            · subst e; simp [upd]
            · simp [upd, e]))
          have F2 := hide ((unhide F).grown g2 (by have := (unhide F).size; omega) (fun g' hg' => by have := Option.some.inj hg'; omega))
          have hj0 : (0 : Int) ≤ (q : Int) := by omega
          have hj1 : (q : Int) < (ln : Int) := by omega
          clear t2 g2
          go_wp2
          exact ⟨⟨q + 1, by omega, by go_num, unhide T3, unhide F2⟩, by simp [intOf]; omega⟩
        · obtain rfl : q = ln := by omega
          have T3 := hide (show KindAt wr (D + 1) (j + q) (kindM v l) from (unhide T).congr (fun x => by
            rw [List.take_of_length_le (by rw [unhide LN]; exact Nat.le_refl _)]
            rfl))
          go_wp2
          go_ret
          exact ⟨D + 1, j + q, rfl, by omega, unhide T3, by omega, by first | exact unhide F | (rw [hD]; exact unhide F)⟩
/-- Those of 1 to k that are picked. -/
def numsTo (pick : Int → Bool) : Nat → List Int
  | 0 => []
  | k + 1 => if pick ((k : Int) + 1) then numsTo pick k ++ [(k : Int) + 1] else numsTo pick k
theorem nums_mem (pick : Int → Bool) : ∀ (k : Nat) (x : Int), x ∈ numsTo pick k ↔ (1 ≤ x ∧ x ≤ k ∧ pick x = true)
  | 0, x => by simp [numsTo]; omega
  | k + 1, x => by
    have ih := nums_mem pick k x
    unfold numsTo
    split
    · rename_i h
      rw [List.mem_append, ih, List.mem_singleton]
      constructor
      · rintro (⟨h1, h2, h3⟩ | rfl)
        · exact ⟨h1, by omega, h3⟩
        · exact ⟨by omega, by omega, h⟩
      · rintro ⟨h1, h2, h3⟩
        by_cases e : x = (k : Int) + 1
        · exact .inr e
        · exact .inl ⟨h1, by omega, h3⟩
    · rename_i h
      rw [ih]
      constructor
      · rintro ⟨h1, h2, h3⟩; exact ⟨h1, by omega, h3⟩
      · rintro ⟨h1, h2, h3⟩
        refine ⟨h1, ?_, h3⟩
        have : x ≠ (k : Int) + 1 := fun e => h (e ▸ h3)
        omega
theorem nums_len (pick : Int → Bool) : ∀ k, (numsTo pick k).length ≤ k
  | 0 => by simp [numsTo]
  | k + 1 => by
    have ih := nums_len pick k
    unfold numsTo
    split
    · simp only [List.length_append, List.length_cons, List.length_nil]; omega
    · omega
theorem nums_congr {p q : Int → Bool} : ∀ k : Nat, (∀ x : Int, 1 ≤ x → x ≤ k → p x = q x) → numsTo p k = numsTo q k
  | 0, _ => rfl
  | k + 1, h => by
    unfold numsTo
    rw [nums_congr k (fun x h1 h2 => h x h1 (by omega)), h ((k : Int) + 1) (by omega) (by omega)]
set_option maxHeartbeats 4000000 in
theorem numbers_calls (w : World) {K : Nat} {caps : Array Value} {pick : Int → Bool} (hK : PickI K caps pick w) :
    Calls Try.prog 12 #[.func (.func K) #[] caps] w fun e w' => ∃ sp n c, e = .returned (.slice sp n c) ∧ Hid ((numsTo pick 9).length = n) ∧ OwnI w.heap.size w' sp c (numsTo pick 9) ∧ Below w.heap.size w w' := by
  have HK := hide hK
  have hE := hK.enter
  clear hK
  go_enter Try.func12, Try.ntmps12
  go_wp2_with fail
  go_loopw [3, 4] (fun s i wr => ∃ (k n c : Nat) (sp : Option Addr), k ≤ 9 ∧ s = .slice sp n c ∧ i = .int .i64 ((k : Int) + 1) ∧ Hid ((numsTo pick k).length = n) ∧ Hid (OwnI w.heap.size wr sp c (numsTo pick k)) ∧ Hid (Below w.heap.size w wr)) (fun _ i _ => (10 - intOf i).toNat)
  case atStart => exact ⟨0, 0, 0, none, by omega, rfl, rfl, rfl, OwnI.ofNil _ _, Below.refl _ _⟩
  case round =>
    obtain ⟨k, n, c, sp, hk, rfl, rfl, hn, ho, hB⟩ := hrel
    by_cases hk9 : k < 9
    · have hi1 : (k : Int) + 1 ≤ 9 := by omega
      go_wp2_with fail
      refine ((unhide HK).call ((k : Int) + 1) wr (by constructor <;> omega) (unhide hB)).mono ?_
      rintro e w2 ⟨rfl, b2⟩
      have ho2 := hide ((unhide ho).later b2)
      have hB2 := hide ((unhide hB).trans (b2.mono (unhide hB).size))
      clear b2
      cases hp : pick ((k : Int) + 1)
      · have RE := hide (show numsTo pick (k + 1) = numsTo pick k by rw [numsTo, if_neg (by rw [hp]; simp)])
        go_wp2
        refine ⟨⟨k + 1, n, c, sp, by omega, rfl, by go_num, ?_, ?_, unhide hB2⟩, by simp [intOf]; omega⟩
        · rw [unhide RE]; exact hn
        · rw [unhide RE]; exact ho2
      · have RE := hide (show numsTo pick (k + 1) = numsTo pick k ++ [(k : Int) + 1] by rw [numsTo, if_pos hp])
        go_wp2_with (at_builtin; refine unhide ?_)
        refine hide ?_
        have ba : Below w2.heap.size w2 (w2.alloc (.cells #[.int .i64 ((k : Int) + 1)] 3)) := (Below.refl _ _).alloc (Nat.le_refl _) _
        have hs2 : w.heap.size ≤ (w2.alloc (.cells #[.int .i64 ((k : Int) + 1)] 3)).heap.size := Nat.le_trans (unhide hB2).size ba.size
        refine wpList_appendI rfl (.tmp 12) (.tmp 14) rfl w.heap.size sp n c (numsTo pick k) rfl (unhide hn) ((unhide ho2).later ba) (some ⟨w2.heap.size, 0, none⟩) 1 1 rfl [(k : Int) + 1] rfl (ints_one (heap_new _ _) (by omega)) (fun h => by cases h) (by have := nums_len pick k; omega) hs2 ?_
        intro sp3 n3 k3 w3 hn3 o3 g3
        have O3 := hide o3
        have N3 := hide (unhide hn3)
        have B3 := hide ((unhide hB2).trans ((ba.mono (unhide hB2).size).trans (GrewI.below g3 ((unhide ho2).later ba) hs2)))
        rw [← unhide RE] at O3 N3
        clear o3 g3 hn3 ba hs2
        go_wp2
        exact ⟨⟨k + 1, n3, k3, sp3, by omega, rfl, by go_num, unhide N3, unhide O3, unhide B3⟩, by simp [intOf]; omega⟩
    · obtain rfl : k = 9 := by omega
      go_wp2
      go_ret
      exact ⟨sp, n, c, rfl, hn, unhide ho, unhide hB⟩
theorem enter_all (c : Array Value) (w : World) : (callFunc 13 c).run Try.prog w = .ok (.enter 13 c) w := by
  simp [callFunc, go_sem, Try.func13]
  rw [if_neg (by decide +kernel), if_neg (fun h => by cases h)]
theorem all_picks {w0 : World} {R B n : Nat} {f : Int → Int} (hR : w0.heap[R]? = some (.cells #[.map (some B)] 47 (0, 0))) (hT : KindAt w0 B n f) : PickI 13 #[.pointer (some ⟨R, 0, none⟩)] (fun x => decide (f x ≠ 0)) w0 := by
  refine ⟨enter_all, fun x w hx F => ?_⟩
  have c0 := box_cell (later_block F hR) 0 _ rfl
  obtain ⟨D, hD, hA⟩ := (hT.later F).map
  have HD := hide hD
  have HA := hide (hA x hx)
  have HX := hide hx
  clear hR F hT hD hA hx
  go_enter Try.func13, Try.ntmps13
  go_wp2_with (at_lookup; refine unhide ?_)
  refine hide ?_
  refine wpList_lookup_own_int _ rfl _ _ 47 rfl 3 50 .i64 intLaw Try.underlying47 Try.underlying50 (zeroK _) B n D rfl (unhide HD) _ (.int .i64 x) rfl (key64 (unhide HX)) ?_
  intro c hc _
  rw [unhide HA] at hc
  obtain rfl : c = f x := by simpa using hc.symm
  clear hc
  go_wp2
  go_ret
  exact ⟨by rw [show (f x != 0) = decide (f x ≠ 0) from by by_cases h : f x = 0 <;> simp [h]]; rfl, Below.refl _ _⟩
/-- All members. -/
def allM (v l : List Int) : List Int := if rightM v l then numsTo (fun x => decide (x ∈ v ∨ x ∈ l)) 9 else []
set_option maxRecDepth 20000 in
set_option maxHeartbeats 4000000 in
theorem all_calls (hv : IntsAt w va v) (hl : IntsAt w la l) (vn ln : Nat) (hvn : v.length = vn) (hln : l.length = ln) (hvx : vn ≤ maxLen) (hlx : ln ≤ maxLen) :
    Calls Try.prog 5 #[mV va vn vc la ln lc] w fun e w' => ∃ sp n c, e = .returned (.slice sp n c) ∧ Hid ((allM v l).length = n) ∧ OwnI w.heap.size w' sp c (allM v l) ∧ Below w.heap.size w w' := by
  have X1 := hide (heap_new w (mB va vn vc la ln lc))
  have b1 := hide (show Below w.heap.size w (w.alloc (mB va vn vc la ln lc)) from (Below.refl _ _).alloc (Nat.le_refl _) _)
  have V := hide (hv.later (unhide b1))
  have L := hide (hl.later (unhide b1))
  have VN := hide hvn
  have LN := hide hln
  have c0 := box_cell (unhide X1) 0 _ rfl
  have c1 := box_cell (unhide X1) 1 _ rfl
  clear hv hl hvn hln
  go_enter Try.func5, Try.ntmps5
  go_wp2_with fail
  generalize hD : w.heap.size = D at *
  generalize w.alloc (mB va vn vc la ln lc) = w1 at *
  refine (right_calls (unhide V) (unhide L) vn ln (unhide VN) (unhide LN) hvx hlx).mono ?_
  rintro e w2 ⟨rfl, b2⟩
  have V2 := hide ((unhide V).later b2)
  have L2 := hide ((unhide L).later b2)
  have X2 := hide (later_block b2 (unhide X1))
  have B2 := hide ((unhide b1).trans (b2.mono (by have := (unhide b1).size; omega)))
  clear b2 c0 c1 X1 V L
  have c0 := box_cell (unhide X2) 0 _ rfl
  have c1 := box_cell (unhide X2) 1 _ rfl
  cases hr : rightM v l
  · have AE := hide (show allM v l = [] by rw [allM, hr]; rfl)
    go_wp2
    go_ret
    exact ⟨none, 0, 0, rfl, by rw [unhide AE]; rfl, by rw [unhide AE]; exact OwnI.ofNil _ _, by first | exact unhide B2 | (rw [hD]; exact unhide B2)⟩
  · obtain ⟨hr1, hr2, hv9, hl9, hv0⟩ := right_parts hr
    have hvn9 : vn ≤ 9 := by rw [← unhide VN]; exact hv9
    have hln9 : ln ≤ 9 := by rw [← unhide LN]; exact hl9
    go_wp2_with fail
    refine (kinds_calls (unhide V2) (unhide L2) vn ln (unhide VN) (unhide LN) hvn9 hln9).mono ?_
    rintro e w3 ⟨B, q, rfl, hq, t3, hB3, b3⟩
    have B3 := hide ((unhide B2).trans (b3.mono (by have := (unhide B2).size; omega)))
    have b4 := hide (show Below w3.heap.size w3 (w3.alloc (.cells #[.map (some B)] 47)) from (Below.refl _ _).alloc (Nat.le_refl _) _)
    have T4 := hide (t3.later (unhide b4))
    have R4 := hide (heap_new w3 (.cells #[.map (some B)] 47))
    have B4 := hide ((unhide B3).trans ((unhide b4).mono (by have := (unhide B3).size; omega)))
    clear t3 hB3 b3 c0 c1
    go_wp2_with fail
    refine (numbers_calls _ (all_picks (unhide R4) (unhide T4))).mono ?_
    rintro e w5 ⟨sp, n, c, rfl, hn, ho, b5⟩
    have PE := hide (show numsTo (fun x => decide (kindM v l x ≠ 0)) 9 = numsTo (fun x => decide (x ∈ v ∨ x ∈ l)) 9 from nums_congr 9 (fun x _ _ => by
      rw [decide_eq_decide]
      unfold kindM
      by_cases h1 : x ∈ l
      · simp [h1]
      · by_cases h2 : x ∈ v
        · simp [h1, h2]
        · simp [h1, h2]))
    rw [unhide PE, show numsTo (fun x => decide (x ∈ v ∨ x ∈ l)) 9 = allM v l by rw [allM, hr]; rfl] at hn ho
    have N5 := hide (unhide hn)
    have O5 := hide ho
    have B5 := hide ((unhide B4).trans (b5.mono (by have := (unhide B4).size; omega)))
    have hS := hide (show D ≤ (w3.alloc (.cells #[.map (some B)] 47)).heap.size by have := (unhide B4).size; omega)
    clear ho b5 hn
    go_wp2
    go_ret
    exact ⟨sp, n, c, rfl, N5, (unhide O5).mono (by first | exact unhide hS | (rw [hD]; exact unhide hS)), by first | exact unhide B5 | (rw [hD]; exact unhide B5)⟩
end
end Go.Proofs.Ytiapcpcdhonefaa
