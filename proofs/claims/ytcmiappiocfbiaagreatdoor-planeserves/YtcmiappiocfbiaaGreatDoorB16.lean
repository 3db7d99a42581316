/- Plane: an answer's step take. -/
import Derived.Test.YtcmiappiocfbiaaGreatDoorB15
import Derived.Test.YtcmiappiocfbiaaGreatDoorB03
import Derived.Laws.Externs
section
namespace Go.Proofs.YtcmiappiocfbiaaGreatDoor
open Go.ChangeShapes Go.WideShapes Go.ChangeAt Go.RowKit
set_option linter.unusedVariables false

set_option maxRecDepth 20000 in
set_option maxHeartbeats 4000000 in
/-- The closure that picks a pool by its name. -/
theorem take1_calls (w : World) (B A : Nat) (pool : ByteArray) (hB : w.cell? ⟨B, 0, none⟩ = some (.pointer (some ⟨A, 0, none⟩))) (hP : w.cell? ⟨A, 12, none⟩ = some (.string pool)) (nm : ByteArray) (ta : Option Addr) (tl tc : Nat) :
    Calls Tryz.prog 31 #[.agg #[.string nm, .slice ta tl tc], .pointer (some ⟨B, 0, none⟩)] w fun e w' => e = .returned (.bool (nm.toList == pool.toList)) ∧ Below w.heap.size w w' := by
  have b1 : Below w.heap.size w (w.alloc (.cells #[.string nm, .slice ta tl tc] 39)) := (Below.refl _ _).alloc (Nat.le_refl _) _
  have c0 := box_cell (heap_new w (.cells #[.string nm, .slice ta tl tc] 39)) 0 _ rfl
  have c1 := box_cell (heap_new w (.cells #[.string nm, .slice ta tl tc] 39)) 1 _ rfl
  have cB := cell_later b1 hB
  have cP := cell_later b1 hP
  have F := hide (show ∀ k, Below w.heap.size w ((w.alloc (.cells #[.string nm, .slice ta tl tc] 39)).drewN k) from fun k => ⟨b1.os, b1.tape, b1.output, b1.size, b1.block⟩)
  clear b1 hB hP
  go_enter Tryz.func31, Tryz.ntmps31
  go_wp2_with fail
  go_quiet (fail)
  go_wp2_with fail
  go_ret
  exact ⟨rfl, unhide F _⟩
/-- The first pool of a name. -/
def poolN (pool : ByteArray) (ps : List Po) : Option Nat := ps.findIdx? (fun p => p.nm.toList == pool.toList)
def poolI : Option Nat → Int
  | some i => (i : Int)
  | none => -1
theorem enter_take1 (c : Array Value) (w : World) : (callFunc 31 c).run Tryz.prog w = .ok (.enter 31 c) w := by
  simp [callFunc, go_sem, Tryz.func31]
  rw [if_neg (by decide +kernel), if_neg (fun h => by cases h)]
set_option maxRecDepth 20000 in
set_option maxHeartbeats 4000000 in
theorem indexPool_calls (w : World) (B A : Nat) (pool : ByteArray) (hB : w.cell? ⟨B, 0, none⟩ = some (.pointer (some ⟨A, 0, none⟩))) (hP : w.cell? ⟨A, 12, none⟩ = some (.string pool)) (pa : Option Addr) (pn pc : Nat) (ps : List Po) (h : PosAt w pa ps) (hn : ps.length = pn) (hx : pn ≤ maxLen) :
    Calls Tryz.prog 32 #[.slice pa pn pc, .func (.func 31) #[] #[.pointer (some ⟨B, 0, none⟩)]] w fun e w' => e = .returned (.int .i64 (poolI (poolN pool ps))) ∧ Below w.heap.size w w' := by
  have H := hide h
  have HB := hide hB
  have HP := hide hP
  have hE := enter_take1
  subst hn
  simp only [maxLen] at hx
  clear h hB hP
  go_enter Tryz.func32, Tryz.ntmps32
  go_wp2_with fail
  go_loopw [8] (fun i wr => ∃ j : Nat, j ≤ ps.length ∧ i = .int .i64 (j : Int) ∧ Hid (∀ q (hq : q < j) (hq' : q < ps.length), (ps[q].nm.toList == pool.toList) = false) ∧ Hid (Below w.heap.size w wr)) (fun i _ => ps.length - (intOf i).toNat)
  case atStart => exact ⟨0, by omega, rfl, fun q hq => by omega, Below.refl _ _⟩
  case round =>
    obtain ⟨j, hj, rfl, hdone, F⟩ := hrel
    by_cases hjn : j < ps.length
    · obtain ⟨b, off, ta, tc, rfl, p0, p1, _⟩ := ((unhide H).later (unhide F)).cell j hjn
      have hj0 : (0 : Int) ≤ (j : Int) := by omega
      have hj1 : (j : Int) < (ps.length : Int) := by omega
      go_wp2_with fail
      refine (take1_calls wr B A pool (cell_later (unhide F) (unhide HB)) (cell_later (unhide F) (unhide HP)) _ _ _ _).mono ?_
      rintro e w1 ⟨rfl, b1⟩
      have F1 := hide ((unhide F).trans (b1.mono (unhide F).size))
      clear b1 p0 p1
      cases hp : (ps[j].nm.toList == pool.toList)
      · have HD := hide (show ∀ q (hq : q < j + 1) (hq' : q < ps.length), (ps[q].nm.toList == pool.toList) = false from fun q hq hq' => by
          by_cases e : q = j
          · subst e; exact hp
          · exact unhide hdone q (by omega) hq')
        go_wp2
        exact ⟨⟨j + 1, by omega, by go_num, unhide HD, unhide F1⟩, by simp [intOf]; omega⟩
      · have HI := hide (show poolN pool ps = some j from by
          unfold poolN
          rw [List.findIdx?_eq_some_iff_getElem]
          exact ⟨hjn, hp, fun q hq => by rw [unhide hdone q hq (by omega)]; decide⟩)
        go_wp2
        go_ret
        rw [unhide HI]
        exact ⟨rfl, unhide F1⟩
    · have HI := hide (show poolN pool ps = none from by
        unfold poolN
        rw [List.findIdx?_eq_none_iff]
        intro x hx'
        obtain ⟨q, hq, rfl⟩ := List.getElem_of_mem hx'
        exact unhide hdone q (by omega) hq)
      go_wp2
      go_ret
      rw [unhide HI]
      exact ⟨rfl, unhide F⟩
theorem cell_aside (W : World) {A B i k : Nat} (v : Value) (h : B ≠ A) : (W.setCell ⟨A, i, none⟩ v).cell? ⟨B, k, none⟩ = W.cell? ⟨B, k, none⟩ :=
  World.cell?_of_block (heap_setCell_other W ⟨A, i, none⟩ B v (fun e => h (by simpa using e)))
theorem firstN_lt (k x : Nat) (l : List Tg) : ∀ n i, firstN k x l n = some i → i < n
  | 0, i, h => by cases h
  | n + 1, i, h => by
    unfold firstN at h
    cases hf : firstN k x l n with
    | some j =>
      rw [hf] at h
      cases h
      have := firstN_lt k x l n i hf
      omega
    | none =>
      rw [hf] at h
      dsimp only at h
      split at h
      · cases h; omega
      · cases h
theorem lastN_lt (k : Nat) (l : List Tg) : ∀ n, 0 < n → lastN k l n < n
  | 0, h => by omega
  | n + 1, _ => by
    unfold lastN
    split
    · omega
    · by_cases h : 0 < n
      · have := lastN_lt k l n h; omega
      · have : n = 0 := by omega
        subst this
        exact Nat.zero_lt_one
theorem weigh_lt (l : List Tg) (d j : Nat) (h : weighN l d = some j) : j < l.length := by
  have hl : 0 < l.length := by
    cases l with
    | nil => unfold weighN at h; rw [sumN_nil, if_pos rfl] at h; cases h
    | cons a b => simp
  unfold weighN at h
  split at h
  · cases h
  · cases h
    unfold takeN
    split
    · exact lastN_lt _ _ _ hl
    · cases hf : firstN (scaleN l) (mulN (drawN d) (sumN (scaleN l) l)) l l.length with
      | some i => exact firstN_lt _ _ _ _ _ hf
      | none => exact lastN_lt _ _ _ hl
/-- The address that is taken. -/
def addrN (pool : ByteArray) (ps : List Po) (d : Nat) : Option ByteArray := match poolN pool ps with
  | none => none
  | some i => match weighN (ps.getD i default).ts d with
    | none => none
    | some j => some ((ps.getD i default).ts.getD j (⟨#[]⟩, 0)).1
/-- How the step take ends. -/
def ATEnd (A : Nat) (W : World) (ps : List Po) (ver : Int) (ra : Option Addr) (rn rc : Nat) (pa : Option Addr) (pn pc : Nat) (ba : Option Addr) (bn bc d : Nat) (m p q x : ByteArray) (fa : Option Addr) (fn fc : Nat) (pool : ByteArray) (e : Ending) (W' : World) : Prop := match addrN pool ps d with
  | none => e = .returned (.int .i64 503) ∧ AB A W (ansC ver ra rn rc pa pn pc ba bn bc d m p q x fa fn fc 0 0 pool ⟨#[]⟩) W'
  | some y => e = .returned (.int .i64 200) ∧ AB A W (ansC ver ra rn rc pa pn pc ba bn bc d m p q x fa fn fc 0 0 pool y) W'
set_option maxRecDepth 20000 in
set_option maxHeartbeats 8000000 in
theorem atake_calls (A : Nat) (W : World) (ps : List Po) (ver : Int) (ra : Option Addr) (rn rc : Nat) (pa : Option Addr) (pn pc : Nat) (ba : Option Addr) (bn bc d : Nat) (m p q x : ByteArray) (fa : Option Addr) (fn fc : Nat) (pool : ByteArray)
    (hA : W.heap[A]? = some (.cells (ansC ver ra rn rc pa pn pc ba bn bc d m p q x fa fn fc 0 0 pool ⟨#[]⟩) 60 (0, 0)))
    (W0 : World) (h0 : W0.heap.size ≤ A) (hp0 : PosAt W0 pa ps) (hb0 : Below W0.heap.size W0 W) (hn : ps.length = pn) (hx : pn ≤ maxLen) (ht : ∀ y ∈ ps, y.ts.length ≤ 1000) (hd : d < 18446744073709551616) :
    Calls Tryz.prog 20 #[.pointer (some ⟨A, 0, none⟩)] W fun e W' => ATEnd A W ps ver ra rn rc pa pn pc ba bn bc d m p q x fa fn fc pool e W' := by
  have hp := hp0.later hb0
  have b1 : Below W.heap.size W (W.alloc (.cells #[.pointer (some ⟨A, 0, none⟩)] 55)) := (Below.refl _ _).alloc (Nat.le_refl _) _
  have R := hide ((AB.new hA).later b1)
  have NB := hide (heap_new W (.cells #[.pointer (some ⟨A, 0, none⟩)] 55))
  have hB := box_cell (unhide NB) 0 _ rfl
  have h2 := (unhide R).cell 2 (.slice pa pn pc) rfl
  have IP := hide (indexPool_calls (W.alloc (.cells #[.pointer (some ⟨A, 0, none⟩)] 55)) W.heap.size A pool hB ((unhide R).cell 12 (.string pool) rfl) pa pn pc ps (hp.later b1) hn hx)
  cases hq : poolN pool ps with
  | none =>
    have FE := hide (show ∀ W', AB A W (ansC ver ra rn rc pa pn pc ba bn bc d m p q x fa fn fc 0 0 pool ⟨#[]⟩) W' → ATEnd A W ps ver ra rn rc pa pn pc ba bn bc d m p q x fa fn fc pool (.returned (.int .i64 503)) W' from fun W' h => by unfold ATEnd addrN; rw [hq]; exact ⟨rfl, h⟩)
    rw [hq, poolI] at IP
    clear hq hp hp0 hb0 ht hd hA b1
    go_enter Tryz.func20, Tryz.ntmps20
    go_wp2_with (first
      | (go_at_call 32
         refine (unhide IP).mono ?_
         rintro e V1 ⟨rfl, v1⟩
         have R := hide ((unhide R).later v1)
         clear v1))
    go_ret
    exact unhide FE _ (unhide R)
  | some i =>
    have hi : i < ps.length := (List.findIdx?_eq_some_iff_getElem.1 hq).1
    have hgi : ps.getD i default = ps[i] := po_at ps i hi
    have hle := ht ps[i] (List.getElem_mem hi)
    have hj0 : (0 : Int) ≤ (i : Int) := by omega
    have hj1 : (i : Int) < (pn : Int) := by omega
    have hj2 : ¬ (i : Int) < 0 := by omega
    obtain ⟨b, off, ta, tc, rfl, p0, p1, tg, ⟨tl1, tl2⟩, tz⟩ := hp0.cell i hi
    have AD := hide (show addrN pool ps d = match weighN ps[i].ts d with
      | none => none
      | some j => some (ps[i].ts.getD j (⟨#[]⟩, 0)).1 by unfold addrN; rw [hq]; dsimp only; rw [hgi])
    rw [hq, poolI] at IP
    generalize ps[i].ts = ts at *
    have WC := hide (show ∀ V, Below W.heap.size W V → Calls Tryz.prog 25 #[.slice ta ts.length tc, .float .f64 d] V fun e w' => e = .returned (firstV (weighN ts d)) ∧ Below V.heap.size V w' from fun V hV => weigh_calls (tg.later (hb0.trans (hV.mono hb0.size))) ts.length tc rfl hle d hd)
    have PC1 := hide (show ∀ V, Below W.heap.size W V → V.cell? ⟨b, off + i * 2 + 1, none⟩ = some (.slice ta ts.length tc) from fun V hV => cell_later (hb0.trans (hV.mono hb0.size)) p1)
    have SM := hide (show ∀ V, AB A W (ansC ver ra rn rc (some ⟨b, off, none⟩) pn pc ba bn bc d m p q x fa fn fc 0 0 pool ⟨#[]⟩) V → Below W.heap.size W V from fun V hV => hV.same hA)
    cases hw : weighN ts d with
    | none =>
      rw [hw] at AD WC
      have FE := hide (show ∀ W', AB A W (ansC ver ra rn rc (some ⟨b, off, none⟩) pn pc ba bn bc d m p q x fa fn fc 0 0 pool ⟨#[]⟩) W' → ATEnd A W ps ver ra rn rc (some ⟨b, off, none⟩) pn pc ba bn bc d m p q x fa fn fc pool (.returned (.int .i64 503)) W' from fun W' h => by unfold ATEnd; rw [unhide AD]; exact ⟨rfl, h⟩)
      rw [firstV] at WC
      clear hq hp hp0 hb0 ht hd hA b1 AD hw tg p0 p1 hgi
      go_enter Tryz.func20, Tryz.ntmps20
      go_wp2_with (first
        | (go_at_call 32
           refine (unhide IP).mono ?_
           rintro e V1 ⟨rfl, v1⟩
           have R := hide ((unhide R).later v1)
           have NB := hide (later_block v1 (unhide NB))
           have cB := box_cell (unhide NB) 0 _ rfl
           have c2 := (unhide R).cell 2 (.slice (some ⟨b, off, none⟩) pn pc) rfl
           have c4 := (unhide R).cell 4 (.float .f64 d) rfl
           have cp := unhide PC1 V1 (unhide SM _ (unhide R))
           clear v1)
        | (go_at_call 25
           refine (unhide WC V1 (unhide SM _ (unhide R))).mono ?_
           rintro e V2 ⟨rfl, v2⟩
           have R := hide ((unhide R).later v2)
           clear v2))
      go_ret
      exact unhide FE _ (unhide R)
    | some j =>
      have hj := weigh_lt ts d j hw
      rw [hw] at AD WC
      rw [firstV] at WC
      obtain ⟨tb, tof, rfl, q0, q1⟩ := tg.cell j hj
      have hy : ts.getD j (⟨#[]⟩, 0) = ts[j] := getD_at ts j hj
      have htb : tb ≠ A := by
        have : tb < W0.heap.size := World.block_lt_of_cell? _ _ q0
        omega
      have FE := hide (show ∀ W', AB A W (ansC ver ra rn rc (some ⟨b, off, none⟩) pn pc ba bn bc d m p q x fa fn fc 0 0 pool ts[j].1) W' → ATEnd A W ps ver ra rn rc (some ⟨b, off, none⟩) pn pc ba bn bc d m p q x fa fn fc pool (.returned (.int .i64 200)) W' from fun W' h => by unfold ATEnd; rw [unhide AD]; dsimp only; rw [hy]; exact ⟨rfl, h⟩)
      have QC := hide (show ∀ V, Below W.heap.size W V → V.cell? ⟨tb, tof + j * 2, none⟩ = some (.string ts[j].1) from fun V hV => cell_later (hb0.trans (hV.mono hb0.size)) q0)
      have hk0 : (0 : Int) ≤ (j : Int) := by omega
      have hk1 : (j : Int) < (ts.length : Int) := by omega
      have hAW : A < W.heap.size := (unhide R).lt
      clear hq hp hp0 hb0 ht hd hA b1 AD hw tg p0 p1 hgi q0 q1 hy
      generalize ts[j].1 = y at *
      go_enter Tryz.func20, Tryz.ntmps20
      go_wp2_with (first
        | (go_at_call 32
           refine (unhide IP).mono ?_
           rintro e V1 ⟨rfl, v1⟩
           have R := hide ((unhide R).later v1)
           have NB := hide (later_block v1 (unhide NB))
           have cB := box_cell (unhide NB) 0 _ rfl
           have c2 := (unhide R).cell 2 (.slice (some ⟨b, off, none⟩) pn pc) rfl
           have c4 := (unhide R).cell 4 (.float .f64 d) rfl
           have cp := unhide PC1 V1 (unhide SM _ (unhide R))
           clear v1)
        | (go_at_call 25
           refine (unhide WC V1 (unhide SM _ (unhide R))).mono ?_
           rintro e V2 ⟨rfl, v2⟩
           have R := hide ((unhide R).later v2)
           have NB := hide (later_block v2 (unhide NB))
           have cB := box_cell (unhide NB) 0 _ rfl
           have cq := unhide QC V2 (unhide SM _ (unhide R))
           clear v2))
      have z0 := (unhide R).cell 13 (.string ⟨#[]⟩) rfl
      have f0 := (unhide R).froz 13
      have R := hide ((unhide R).later (show Below V2.heap.size V2 V2.drew from (Below.refl _ _).drew))
      have z1 := (unhide R).cell 13 (.string ⟨#[]⟩) rfl
      have f1 := (unhide R).froz 13
      have R := hide ((unhide R).set 13 (.string y))
      refine wp_region_held_drew (S := fun w' => w'.cell? ⟨W.heap.size, 0, none⟩ = some (.pointer (some ⟨A, 0, none⟩)) ∧ w'.cell? ⟨tb, tof + j * 2, none⟩ = some (.string y)) (by kernel_rfl) ?_ (fun hHeld => ?_)
      · try dsimp only
        first | exact ⟨cB, cq⟩ | exact ⟨(cell_aside _ _ (by omega)).trans cB, (cell_aside _ _ htb).trans cq⟩
      refine held_take 0 (oi := { dst := some 38, op := Op.load 55 (Operand.tmp 1), type := 55, pos := "serve.go:78", after := #[], guard := none }) (v := ?_) (by kernel_rfl) rfl (by rfl) (by kernel_rfl) (by kernel_rfl) (fun _ _ _ h => h) ?_ (by assumption) ?_
      rotate_left
      · (intro w hSw; (try dsimp only at hSw); go_simp; try with_reducible rfl)
      try simp only [Act.put, List.setIfInBounds_toArray, List.set_cons_zero, List.set_cons_succ]
      refine held_take 1 (oi := { dst := some 39, op := Op.move (Operand.tmp 5), type := 37, pos := "serve.go:78", after := #[], guard := none }) (v := ?_) (by kernel_rfl) rfl (by rfl) (by kernel_rfl) (by kernel_rfl) (fun _ _ _ h => h) ?_ (by assumption) ?_
      rotate_left
      · (intro w hSw; (try dsimp only at hSw); go_simp; try with_reducible rfl)
      try simp only [Act.put, List.setIfInBounds_toArray, List.set_cons_zero, List.set_cons_succ]
      refine held_take 2 (oi := { dst := some 40, op := Op.move (Operand.tmp 6), type := 3, pos := "serve.go:78", after := #[], guard := none }) (v := ?_) (by kernel_rfl) rfl (by rfl) (by kernel_rfl) (by kernel_rfl) (fun _ _ _ h => h) ?_ (by assumption) ?_
      rotate_left
      · (intro w hSw; (try dsimp only at hSw); go_simp; try with_reducible rfl)
      try simp only [Act.put, List.setIfInBounds_toArray, List.set_cons_zero, List.set_cons_succ]
      refine held_take 3 (oi := { dst := some 41, op := Op.indexAddr 37 (Operand.tmp 39) (Operand.tmp 40), type := 0, pos := "serve.go:78", after := #[{ on := 1, ground := Ground.data }, { on := 2, ground := Ground.data }], guard := none }) (v := ?_) (by kernel_rfl) rfl (by rfl) (by kernel_rfl) (by kernel_rfl) (fun _ _ _ h => h) ?_ (by assumption) ?_
      rotate_left
      · (intro w hSw; (try dsimp only at hSw); go_simp; try with_reducible rfl)
      try simp only [Act.put, List.setIfInBounds_toArray, List.set_cons_zero, List.set_cons_succ]
      refine held_take 4 (oi := { dst := some 42, op := Op.fieldAddr 41 (Operand.tmp 41) 0, type := 0, pos := "serve.go:78", after := #[{ on := 3, ground := Ground.data }], guard := none }) (v := ?_) (by kernel_rfl) rfl (by rfl) (by kernel_rfl) (by kernel_rfl) (fun _ _ _ h => h) ?_ (by assumption) ?_
      rotate_left
      · (intro w hSw; (try dsimp only at hSw); go_simp; try with_reducible rfl)
      try simp only [Act.put, List.setIfInBounds_toArray, List.set_cons_zero, List.set_cons_succ]
      refine held_take 5 (oi := { dst := some 43, op := Op.load 9 (Operand.tmp 42), type := 9, pos := "serve.go:78", after := #[{ on := 4, ground := Ground.data }], guard := none }) (v := ?_) (by kernel_rfl) rfl (by rfl) (by kernel_rfl) (by kernel_rfl) (fun _ _ _ h => h) ?_ (by assumption) ?_
      rotate_left
      · (intro w hSw; (try dsimp only at hSw); go_simp; try with_reducible rfl)
      try simp only [Act.put, List.setIfInBounds_toArray, List.set_cons_zero, List.set_cons_succ]
      refine held_take 6 (oi := { dst := some 44, op := Op.nilCheck (Operand.tmp 38), type := 0, pos := "serve.go:78", after := #[{ on := 0, ground := Ground.data }, { on := 0, ground := Ground.phase }, { on := 1, ground := Ground.phase }, { on := 2, ground := Ground.phase }, { on := 3, ground := Ground.phase }, { on := 4, ground := Ground.phase }, { on := 5, ground := Ground.phase }], guard := none }) (v := ?_) (by kernel_rfl) rfl (by rfl) (by kernel_rfl) (by kernel_rfl) (fun _ _ _ h => h) ?_ (by assumption) ?_
      rotate_left
      · (intro w hSw; (try dsimp only at hSw); go_simp; try with_reducible rfl)
      try simp only [Act.put, List.setIfInBounds_toArray, List.set_cons_zero, List.set_cons_succ]
      refine held_take 7 (oi := { dst := some 45, op := Op.fieldAddr 60 (Operand.tmp 44) 4, type := 0, pos := "serve.go:78", after := #[{ on := 6, ground := Ground.data }, { on := 0, ground := Ground.phase }, { on := 1, ground := Ground.phase }, { on := 2, ground := Ground.phase }, { on := 3, ground := Ground.phase }, { on := 4, ground := Ground.phase }, { on := 5, ground := Ground.phase }], guard := none }) (v := ?_) (by kernel_rfl) rfl (by rfl) (by kernel_rfl) (by kernel_rfl) (fun _ _ _ h => h) ?_ (by assumption) ?_
      rotate_left
      · (intro w hSw; (try dsimp only at hSw); go_simp; try with_reducible rfl)
      try simp only [Act.put, List.setIfInBounds_toArray, List.set_cons_zero, List.set_cons_succ]
      refine held_take 8 (oi := { dst := some 46, op := Op.fieldAddr 43 (Operand.tmp 45) 3, type := 0, pos := "serve.go:78", after := #[{ on := 7, ground := Ground.data }, { on := 0, ground := Ground.phase }, { on := 1, ground := Ground.phase }, { on := 2, ground := Ground.phase }, { on := 3, ground := Ground.phase }, { on := 4, ground := Ground.phase }, { on := 5, ground := Ground.phase }], guard := none }) (v := ?_) (by kernel_rfl) rfl (by rfl) (by kernel_rfl) (by kernel_rfl) (fun _ _ _ h => h) ?_ (by assumption) ?_
      rotate_left
      · (intro w hSw; (try dsimp only at hSw); go_simp; try with_reducible rfl)
      try simp only [Act.put, List.setIfInBounds_toArray, List.set_cons_zero, List.set_cons_succ]
      refine held_one 9 (oi := { dst := none, op := Op.store 9 (Operand.tmp 46) (Operand.tmp 43), type := 0, pos := "serve.go:78", after := #[{ on := 8, ground := Ground.data }, { on := 5, ground := Ground.data }, { on := 0, ground := Ground.phase }, { on := 1, ground := Ground.phase }, { on := 2, ground := Ground.phase }, { on := 3, ground := Ground.phase }, { on := 4, ground := Ground.phase }, { on := 5, ground := Ground.phase }], guard := none }) (by kernel_rfl) rfl (fun K hK => ?_)
      go_simp
      go_wp2_with fail
      refine hK.out _ _ ?_ (fun hHeld => ?_)
      · try dsimp only
        first | exact ⟨cB, cq⟩ | exact ⟨(cell_aside _ _ (by omega)).trans cB, (cell_aside _ _ htb).trans cq⟩
      clear hK K
      try simp only [Act.put, List.setIfInBounds_toArray, List.set_cons_zero, List.set_cons_succ]
      refine wpAnyH_done (by kernel_rfl) ?_ _
      go_wp2_with fail
      go_ret
      exact unhide FE _ (unhide R)
end Go.Proofs.YtcmiappiocfbiaaGreatDoor
end
/- Plane: the first of the three steps that has a status. -/
section
namespace Go.Proofs.YtcmiappiocfbiaaGreatDoor
open Go.ChangeShapes Go.WideShapes Go.ChangeAt Go.RowKit
set_option linter.unusedVariables false

/-- Status, pool and address of an answer: by bytes, routes, pools and draw alone. -/
def serveL (l : List Nat) (rs : List Rt) (ps : List Po) (d : Nat) : Int × ByteArray × ByteArray := match parseL (txN l) with
  | .bad _ => (400, ⟨#[]⟩, ⟨#[]⟩)
  | .ok h _ => match bestN (stS h.host) (stS h.path) rs rs.length with
    | none => (404, ⟨#[]⟩, ⟨#[]⟩)
    | some b => match addrN (rs.getD b rt0).l ps d with
      | none => (503, (rs.getD b rt0).l, ⟨#[]⟩)
      | some y => (200, (rs.getD b rt0).l, y)
/-- What the three steps read, as it lay there ahead of the answer. -/
structure SvAt (A : Nat) (W0 W : World) (l : List Nat) (rs : List Rt) (ps : List Po) (ra : Option Addr) (pa ba : Option Addr) (bc d : Nat) : Prop where
  le : W0.heap.size ≤ A
  bw : Below W0.heap.size W0 W
  rts : RtsAt W0 ra rs
  pos : PosAt W0 pa ps
  rl : rs.length ≤ maxLen
  pl : ps.length ≤ maxLen
  tl : ∀ y ∈ ps, y.ts.length ≤ 1000
  dl : d < 18446744073709551616
  bts : BytesAt W0 ba l
  bl : l.length ≤ bc
  bz : ba = none → bc = 0
  lz : Lz W0
theorem SvAt.step {A : Nat} {W0 W V : World} {l : List Nat} {rs : List Rt} {ps : List Po} {ra pa ba : Option Addr} {bc d : Nat} {cs : Array Value} (h : SvAt A W0 W l rs ps ra pa ba bc d) (hV : AB A W cs V) : SvAt A W0 V l rs ps ra pa ba bc d :=
  { h with bw := h.bw.trans (hV.below h.le) }
/-- How far the steps have come. -/
def SoSteps (A : Nat) (W : World) (l : List Nat) (rs : List Rt) (ps : List Po) (ver : Int) (ra : Option Addr) (rc : Nat) (pa : Option Addr) (pc : Nat) (ba : Option Addr) (bc d : Nat) (V : World) : Nat → Prop
  | 0 => AB A W (ansC ver ra rs.length rc pa ps.length pc ba l.length bc d ⟨#[]⟩ ⟨#[]⟩ ⟨#[]⟩ ⟨#[]⟩ none 0 0 0 0 ⟨#[]⟩ ⟨#[]⟩) V
  | 1 => ∃ h k fa fc, parseL (txN l) = .ok h k ∧ AB A W (ansC ver ra rs.length rc pa ps.length pc ba l.length bc d (stS h.method) (stS h.path) (stS h.query) (stS h.host) fa h.fields.length fc 0 0 ⟨#[]⟩ ⟨#[]⟩) V
  | 2 => ∃ h k fa fc b, parseL (txN l) = .ok h k ∧ bestN (stS h.host) (stS h.path) rs rs.length = some b ∧ AB A W (ansC ver ra rs.length rc pa ps.length pc ba l.length bc d (stS h.method) (stS h.path) (stS h.query) (stS h.host) fa h.fields.length fc 0 0 (rs.getD b rt0).l ⟨#[]⟩) V
  | _ => False
/-- How the three steps end. -/
def FoEnd (A : Nat) (W : World) (l : List Nat) (rs : List Rt) (ps : List Po) (ver : Int) (ra : Option Addr) (rc : Nat) (pa : Option Addr) (pc : Nat) (ba : Option Addr) (bc d : Nat) (e : Ending) (W' : World) : Prop :=
  e = .returned (.int .i64 (serveL l rs ps d).1) ∧ ∃ m p q x fa fn fc, AB A W (ansC ver ra rs.length rc pa ps.length pc ba l.length bc d m p q x fa fn fc 0 0 (serveL l rs ps d).2.1 (serveL l rs ps d).2.2) W'
theorem enter_aparse (c : Array Value) (w : World) : (callFunc 18 c).run Tryz.prog w = .ok (.enter 18 c) w := by
  simp [callFunc, go_sem, Tryz.func18]
  rw [if_neg (by decide +kernel), if_neg (fun h => by cases h)]
theorem enter_afind (c : Array Value) (w : World) : (callFunc 19 c).run Tryz.prog w = .ok (.enter 19 c) w := by
  simp [callFunc, go_sem, Tryz.func19]
  rw [if_neg (by decide +kernel), if_neg (fun h => by cases h)]
theorem enter_atake (c : Array Value) (w : World) : (callFunc 20 c).run Tryz.prog w = .ok (.enter 20 c) w := by
  simp [callFunc, go_sem, Tryz.func20]
  rw [if_neg (by decide +kernel), if_neg (fun h => by cases h)]
section
variable {A : Nat} {W0 W V : World} {l : List Nat} {rs : List Rt} {ps : List Po} {ver : Int} {ra : Option Addr} {rc : Nat} {pa : Option Addr} {pc : Nat} {ba : Option Addr} {bc d : Nat}
theorem step0 (hs : SvAt A W0 W l rs ps ra pa ba bc d) (h : SoSteps A W l rs ps ver ra rc pa pc ba bc d V 0) :
    Calls Tryz.prog 18 #[.pointer (some ⟨A, 0, none⟩)] V fun e V' => (e = .returned (.int .i64 400) ∧ FoEnd A W l rs ps ver ra rc pa pc ba bc d e V') ∨ (e = .returned (.int .i64 0) ∧ SoSteps A W l rs ps ver ra rc pa pc ba bc d V' 1) := by
  unfold SoSteps at h
  have s := hs.step h
  refine (aparse_calls A V l ver ra rs.length rc pa ps.length pc ba l.length bc d h.row rfl s.bl (s.bts.later s.bw) s.bz (s.lz.later s.bw)).mono ?_
  intro e V' he
  unfold APEnd at he
  cases hp : parseL (txN l) with
  | bad n =>
    rw [hp] at he
    obtain ⟨rfl, he⟩ := he
    refine .inl ⟨rfl, ?_⟩
    have e1 : serveL l rs ps d = (400, ⟨#[]⟩, ⟨#[]⟩) := by unfold serveL; rw [hp]
    unfold FoEnd
    rw [e1]
    exact ⟨rfl, _, _, _, _, _, _, _, h.trans he⟩
  | ok g k =>
    rw [hp] at he
    obtain ⟨rfl, fa, fc, he⟩ := he
    exact .inr ⟨rfl, g, k, fa, fc, hp, h.trans he⟩
theorem step1 (hs : SvAt A W0 W l rs ps ra pa ba bc d) (h : SoSteps A W l rs ps ver ra rc pa pc ba bc d V 1) :
    Calls Tryz.prog 19 #[.pointer (some ⟨A, 0, none⟩)] V fun e V' => (e = .returned (.int .i64 404) ∧ FoEnd A W l rs ps ver ra rc pa pc ba bc d e V') ∨ (e = .returned (.int .i64 0) ∧ SoSteps A W l rs ps ver ra rc pa pc ba bc d V' 2) := by
  obtain ⟨g, k, fa, fc, hp, h⟩ := h
  have s := hs.step h
  refine (afind_calls A V rs ver ra rs.length rc pa ps.length pc ba l.length bc d _ _ _ _ _ _ _ h.row (s.rts.later s.bw) rfl s.rl).mono ?_
  intro e V' he
  unfold AFEnd at he
  cases hb : bestN (stS g.host) (stS g.path) rs rs.length with
  | none =>
    rw [hb] at he
    obtain ⟨rfl, he⟩ := he
    refine .inl ⟨rfl, ?_⟩
    have e1 : serveL l rs ps d = (404, ⟨#[]⟩, ⟨#[]⟩) := by unfold serveL; rw [hp]; dsimp only; rw [hb]
    unfold FoEnd
    rw [e1]
    exact ⟨rfl, _, _, _, _, _, _, _, h.trans he⟩
  | some b =>
    rw [hb] at he
    obtain ⟨rfl, he⟩ := he
    exact .inr ⟨rfl, g, k, fa, fc, b, hp, hb, h.trans he⟩
theorem step2 (hs : SvAt A W0 W l rs ps ra pa ba bc d) (h : SoSteps A W l rs ps ver ra rc pa pc ba bc d V 2) :
    Calls Tryz.prog 20 #[.pointer (some ⟨A, 0, none⟩)] V fun e V' => (e = .returned (.int .i64 503) ∨ e = .returned (.int .i64 200)) ∧ FoEnd A W l rs ps ver ra rc pa pc ba bc d e V' := by
  obtain ⟨g, k, fa, fc, b, hp, hb, h⟩ := h
  have s := hs.step h
  refine (atake_calls A V ps ver ra rs.length rc pa ps.length pc ba l.length bc d _ _ _ _ _ _ _ _ h.row W0 s.le s.pos s.bw rfl s.pl s.tl s.dl).mono ?_
  intro e V' he
  unfold ATEnd at he
  cases ha : addrN (rs.getD b rt0).l ps d with
  | none =>
    rw [ha] at he
    obtain ⟨rfl, he⟩ := he
    refine ⟨.inl rfl, ?_⟩
    have e1 : serveL l rs ps d = (503, (rs.getD b rt0).l, ⟨#[]⟩) := by unfold serveL; rw [hp]; dsimp only; rw [hb]; dsimp only; rw [ha]
    unfold FoEnd
    rw [e1]
    exact ⟨rfl, _, _, _, _, _, _, _, h.trans he⟩
  | some y =>
    rw [ha] at he
    obtain ⟨rfl, he⟩ := he
    refine ⟨.inr rfl, ?_⟩
    have e1 : serveL l rs ps d = (200, (rs.getD b rt0).l, y) := by unfold serveL; rw [hp]; dsimp only; rw [hb]; dsimp only; rw [ha]
    unfold FoEnd
    rw [e1]
    exact ⟨rfl, _, _, _, _, _, _, _, h.trans he⟩
end
end Go.Proofs.YtcmiappiocfbiaaGreatDoor
end
/- Plane: firstOf over the three steps of an answer. -/
section
namespace Go.Proofs.YtcmiappiocfbiaaGreatDoor
open Go.ChangeShapes Go.WideShapes Go.ChangeAt Go.RowKit
set_option linter.unusedVariables false

theorem SoSteps.row {A S : Nat} {W V : World} {l : List Nat} {rs : List Rt} {ps : List Po} {ver : Int} {ra : Option Addr} {rc : Nat} {pa : Option Addr} {pc : Nat} {ba : Option Addr} {bc d : Nat} {o : Obj} (hne : S ≠ A) (hS : W.heap[S]? = some o) : ∀ j, SoSteps A W l rs ps ver ra rc pa pc ba bc d V j → V.heap[S]? = some o := by
  have key : ∀ cs, AB A W cs V → V.heap[S]? = some o := fun cs h => (h.gr.block S (Array.getElem?_eq_some_iff.1 hS).1 (fun e => hne (Option.some.inj e))).trans hS
  intro j h
  match j, h with
  | 0, h => exact key _ h
  | 1, ⟨_, _, _, _, _, h⟩ => exact key _ h
  | 2, ⟨_, _, _, _, _, _, _, h⟩ => exact key _ h
set_option maxRecDepth 20000 in
set_option maxHeartbeats 8000000 in
theorem firstOf_calls {A S : Nat} {W0 W : World} {l : List Nat} {rs : List Rt} {ps : List Po} {ver : Int} {ra : Option Addr} {rc : Nat} {pa : Option Addr} {pc : Nat} {ba : Option Addr} {bc d : Nat} (hs : SvAt A W0 W l rs ps ra pa ba bc d)
    (hA : W.heap[A]? = some (.cells (ansC ver ra rs.length rc pa ps.length pc ba l.length bc d ⟨#[]⟩ ⟨#[]⟩ ⟨#[]⟩ ⟨#[]⟩ none 0 0 0 0 ⟨#[]⟩ ⟨#[]⟩) 60 (0, 0)))
    (hne : S ≠ A) (hS : W.heap[S]? = some (.cells #[.func (.func 18) #[.pointer (some ⟨A, 0, none⟩)] #[], .func (.func 19) #[.pointer (some ⟨A, 0, none⟩)] #[], .func (.func 20) #[.pointer (some ⟨A, 0, none⟩)] #[]] 46 (0, 0))) :
    Calls Tryz.prog 17 #[.slice (some ⟨S, 0, none⟩) 3 3] W fun e W' => FoEnd A W l rs ps ver ra rc pa pc ba bc d e W' := by
  have ST := hide (show SoSteps A W l rs ps ver ra rc pa pc ba bc d W 0 from AB.new hA)
  have RW := hide (fun V j => SoSteps.row (V := V) (l := l) (rs := rs) (ps := ps) (ver := ver) (ra := ra) (rc := rc) (pa := pa) (pc := pc) (ba := ba) (bc := bc) (d := d) hne hS j)
  have T0 := hide (fun V => step0 (ver := ver) (rc := rc) (pc := pc) (V := V) hs)
  have T1 := hide (fun V => step1 (ver := ver) (rc := rc) (pc := pc) (V := V) hs)
  have T2 := hide (fun V => step2 (ver := ver) (rc := rc) (pc := pc) (V := V) hs)
  have hE0 := enter_aparse
  have hE1 := enter_afind
  have hE2 := enter_atake
  generalize hSo : SoSteps A W l rs ps ver ra rc pa pc ba bc d = So at *
  generalize hFo : FoEnd A W l rs ps ver ra rc pa pc ba bc d = Fo at *
  have N3 := hide (show ∀ V j, So V j → j < 3 from fun V j h => by
    subst hSo
    match j, h with
    | 0, _ => omega
    | 1, _ => omega
    | 2, _ => omega)
  clear hs hA hS hSo hFo
  go_enter Tryz.func17, Tryz.ntmps17
  go_wp2_with fail
  go_loopw [8] (fun i wr => ∃ j : Nat, i = .int .i64 (j : Int) ∧ Hid (So wr j)) (fun i _ => 3 - (intOf i).toNat)
  case atStart => exact ⟨0, rfl, hide (unhide ST)⟩
  case round =>
    obtain ⟨j, rfl, B⟩ := hrel
    have hj := unhide N3 _ _ (unhide B)
    have row := unhide RW _ _ (unhide B)
    match j, hj, B with
    | 0, _, B =>
      have c0 := box_cell row 0 _ rfl
      clear row
      go_wp2_with fail
      refine (unhide T0 _ (unhide B)).mono ?_
      rintro e V1 (⟨rfl, v1⟩ | ⟨rfl, v1⟩)
      · have X := hide v1
        go_wp2
        exact unhide X
      · have X := hide v1
        go_wp2
        exact ⟨⟨1, by go_num, unhide X⟩, by simp [intOf]⟩
    | 1, _, B =>
      have c0 := box_cell row 1 _ rfl
      clear row
      go_wp2_with fail
      refine (unhide T1 _ (unhide B)).mono ?_
      rintro e V1 (⟨rfl, v1⟩ | ⟨rfl, v1⟩)
      · have X := hide v1
        go_wp2
        exact unhide X
      · have X := hide v1
        go_wp2
        exact ⟨⟨2, by go_num, unhide X⟩, by simp [intOf]⟩
    | 2, _, B =>
      have c0 := box_cell row 2 _ rfl
      clear row
      go_wp2_with fail
      refine (unhide T2 _ (unhide B)).mono ?_
      rintro e V1 ⟨rfl | rfl, v1⟩
      all_goals
        have X := hide v1
        go_wp2
        exact unhide X
end Go.Proofs.YtcmiappiocfbiaaGreatDoor
end
/- Plane: the document's weights and sums. -/
section
namespace Go.Proofs.YtcmiappiocfbiaaGreatDoor
open Go.ChangeShapes Go.WideShapes Go.ChangeAt Go.RowKit

def cntN (x : Nat) : Nat := if x < fI then x else 0
theorem cntN_lt (x : Nat) : cntN x < fI := by
  unfold cntN
  split
  · assumption
  · decide
theorem cnt_wt (k x : Nat) : mulN (cntN x) k = wt k x := by
  have hz : mulN 0 k = 0 := by
    unfold mulN
    rw [show val 0 = 0 from by decide, Nat.zero_mul, near_zero]
  unfold cntN wt
  by_cases h : x < fI
  · rw [if_pos h]
    by_cases h0 : 0 < x
    · rw [if_pos ⟨h0, h⟩]
    · rw [if_neg (by omega)]
      have : x = 0 := by omega
      rw [this, hz]
  · rw [if_neg h, if_neg (by omega), hz]
theorem run_bits (x : Nat) (w : World) : (Extern.MathFloatBits.float64bits #[.float .f64 x]).run Tryz.prog w = .ok (.int .u64 (x : Int)) w := rfl
set_option maxRecDepth 20000 in
set_option maxHeartbeats 2000000 in
theorem rweight_calls (x : Nat) (w : World) (hx : x < 18446744073709551616) : Calls Tryz.prog 56 #[.float .f64 x] w fun e w' => e = .returned (.bool (decide (x < fI))) ∧ w' = w := by
  have hl : decide ((x : Int) < 9218868437227405312) = decide (x < fI) := decide_eq_decide.2 (by simp only [fI]; omega)
  go_enter Tryz.func56, Tryz.ntmps56
  go_wp2_with fail
  rw [run_callFunc_extern Tryz.func44 (by kernel_rfl) (by kernel_rfl) (by kernel_rfl) (e := Extern.MathFloatBits.float64bits) (by kernel_rfl)]
  rw [run_bits]
  simp only [Result.andThen]
  rw [Oper.upon_value]
  go_wp2
  go_ret
  exact ⟨rfl, rfl⟩
set_option maxRecDepth 20000 in
set_option maxHeartbeats 2000000 in
theorem counts_calls (x : Nat) (w : World) (hx : x < 18446744073709551616) : Calls Tryz.prog 43 #[.float .f64 x] w fun e w' => e = .returned (.float .f64 (cntN x)) ∧ w' = w := by
  have WC := hide (rweight_calls x w hx)
  by_cases h : x < fI
  · rw [decide_eq_true h] at WC
    have E := hide (show cntN x = x by unfold cntN; rw [if_pos h])
    clear h hx
    go_enter Tryz.func43, Tryz.ntmps43
    go_wp2_with (go_at_call 56; refine (unhide WC).mono ?_; rintro e w' ⟨rfl, rfl⟩)
    go_ret
    exact ⟨by rw [unhide E]; rfl, rfl⟩
  · rw [decide_eq_false h] at WC
    have E := hide (show cntN x = 0 by unfold cntN; rw [if_neg h])
    clear h hx
    go_enter Tryz.func43, Tryz.ntmps43
    go_wp2_with (go_at_call 56; refine (unhide WC).mono ?_; rintro e w' ⟨rfl, rfl⟩)
    go_ret
    exact ⟨by rw [unhide E]; rfl, rfl⟩
section
variable {w : World} {a : Option Addr} {l : List Tg}
set_option maxRecDepth 20000 in
set_option maxHeartbeats 4000000 in
theorem rsum_calls (k : Nat) (hk : k < fI) (h : TgsAt w a l) (n c m : Nat) (hn : l.length = n) (hx : n ≤ maxLen) (hm : m ≤ n) :
    Calls Tryz.prog 42 #[.slice a n c, .int .i64 (m : Int), .float .f64 k] w fun e w' => e = .returned (.float .f64 (sumN k (l.take m))) ∧ Below w.heap.size w w' := by
  have H := hide h
  have HN := hide hn
  simp only [maxLen] at hx
  clear h hn
  go_enter Tryz.func42, Tryz.ntmps42
  go_wp2_with fail
  go_loopw [7, 8] (fun s i wr => ∃ j : Nat, j ≤ m ∧ i = .int .i64 (j : Int) ∧ s = .float .f64 (sumN k (l.take j)) ∧ Hid (Below w.heap.size w wr)) (fun _ i _ => m - (intOf i).toNat)
  case atStart => exact ⟨0, by omega, rfl, rfl, hide (Below.refl _ _)⟩
  case round =>
    obtain ⟨j, hj, rfl, rfl, B⟩ := hrel
    by_cases hjm : j < m
    · have y0 : (0 : Int) ≤ (j : Int) := by omega
      have y1 : (j : Int) < (m : Int) := by omega
      have y2 : (j : Int) < (n : Int) := by omega
      have hjl : j < l.length := by rw [unhide HN]; omega
      obtain ⟨b, off, rfl, q0, q1⟩ := (unhide H).cell j hjl
      have p1 := cell_later (unhide B) q1
      have ht := (unhide H).lt _ (List.getElem_mem hjl)
      have ST := hide (sumN_take k l j hjl)
      have ha := run_addF (sumN_le k (l.take j)) (wt_le k l[j].2)
      have hmu := run_mulF (cntN_lt l[j].2) hk
      rw [cnt_wt] at hmu
      generalize l[j] = t at *
      obtain ⟨s, x⟩ := t
      simp only at p1 ht ha ST hmu
      have CC := hide (counts_calls x wr ht)
      generalize sumN k (l.take j) = sm at *
      generalize wt k x = y at *
      generalize cntN x = z at *
      clear q0 q1 ht
      go_wp2_with (go_at_call 43; refine (unhide CC).mono ?_; rintro e wr' ⟨rfl, rfl⟩)
      exact ⟨⟨j + 1, by omega, by go_num, by rw [unhide ST], unhide B⟩, by simp [intOf]; omega⟩
    · have hjj : ¬ (j : Int) < (m : Int) := by omega
      obtain rfl : j = m := by omega
      go_wp2
      go_ret
      exact ⟨rfl, unhide B⟩
end
end Go.Proofs.YtcmiappiocfbiaaGreatDoor
end
