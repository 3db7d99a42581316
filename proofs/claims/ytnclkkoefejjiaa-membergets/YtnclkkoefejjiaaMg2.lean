/- Changes out of bytes; the document's Get and GetChange. -/
import Derived.Test.YtnclkkoefejjiaaMg1
import Derived.Test.YtnclkkoefejjiaaMun
import Derived.Test.YtnclkkoefejjiaaRfn
namespace Go.Proofs.Ytnclkkoefejjiaa
open Go.ChangeShapes Go.WideShapes Go.ChangeAt Go.RowKit

theorem nums_len_eq {l : List Nat} : ∀ {c k : Nat} {xs : List Int} {q : Nat}, numsE l c k = .ok (xs, q) → xs.length = c
  | 0, k, xs, q, h => by simp only [numsE, Except.ok.injEq, Prod.mk.injEq] at h; rw [← h.1]; rfl
  | c + 1, k, xs, q, h => by
    rw [numsE] at h
    cases ht : takeE l k with
    | error x => rw [ht] at h; cases h
    | ok r =>
      obtain ⟨n, k2⟩ := r
      rw [ht] at h
      simp only at h
      cases hn : numsE l c k2 with
      | error x => rw [hn] at h; cases h
      | ok s =>
        obtain ⟨s, k3⟩ := s
        rw [hn] at h
        simp only [Except.ok.injEq, Prod.mk.injEq] at h
        rw [← h.1, List.length_cons, nums_len_eq hn]
def getCE (l : List Nat) : Except Nat (Int × Int) := match numsE l 2 0 with
  | .error x => .error x
  | .ok (xs, k) => if k = l.length then (if mayM (xs.getD 0 0) (xs.getD 1 0) then .ok (xs.getD 0 0, xs.getD 1 0) else .error 4) else .error 4
/-- How a reader of changes ends. -/
def GetCRes (r : Except Nat (Int × Int)) (e : Ending) : Prop := match r with
  | .ok (d, n) => e = .returned (.tuple #[cV d n, .int .i64 0])
  | .error x => e = .returned (.tuple #[cV 0 0, .int .i64 (x : Int)]) ∧ x ≠ 0
theorem step_alloc40 {w : World} {ops : Array Oper} {o : Oper} {a : Act} {K : Act → World → Prop} {Q : Exit → Act → World → Prop} {E : Prop} (hgd : o.guard = none)
    (ho : o.op = .alloc 40)
    (h : ∀ g w', Hid (g = w.heap.size) → w'.heap[g]? = some (cB 0 0) → Below w.heap.size w w' → K (a.put o.dst (.pointer (some ⟨g, 0, none⟩))) w') :
    if Region.wanted o (yielded ops a.tmps) = true then Oper.wp Try.prog o a w K Q else E := by
  have hw : Region.wanted o (yielded ops a.tmps) = true := by simp [Region.wanted, hgd]
  rw [if_pos hw]
  have h1 := h w.heap.size (w.alloc (cB 0 0)) rfl (heap_new _ _) ((Below.refl _ _).alloc (Nat.le_refl _) _)
  have hz : (zeroValue 40).run Try.prog w = .ok (cV 0 0) w := by kernel_rfl
  unfold Oper.wp
  simp [execOp, ho, go_sem, hz]
  exact h1
section
variable {w : World} {a : Option Addr} {c : Nat} {l : List Nat}
set_option maxRecDepth 20000 in
set_option maxHeartbeats 8000000 in
theorem mgetC_calls (hb : BytesAt w a l) (m : Nat) (hm : l.length = m) (hx : m ≤ maxLen) :
    Calls Try.prog 39 #[.slice a m c] w fun e w' => GetCRes (getCE l) e ∧ Below w.heap.size w w' := by
  have HM := hide hm
  have b1 := hide (show Below w.heap.size w (w.alloc (cB 0 0)) from (Below.refl _ _).alloc (Nat.le_refl _) _)
  have Y1 := hide (heap_new w (cB 0 0))
  have HB := hide (hb.later (unhide b1))
  have ZE := hide (show (w.alloc (cB 0 0)).heap.size = w.heap.size + 1 by simp)
  clear hb hm
  go_enter Try.func39, Try.ntmps39
  go_wp2_with fail
  generalize hD : w.heap.size = D at *
  generalize w.alloc (cB 0 0) = w1 at *
  have DONE := hide (show ∀ (u : World) (p q : Value), Below w1.heap.size w1 u → ∃ W, W.cell? ⟨D, 0, none⟩ = some p ∧ W.cell? ⟨D, 1, none⟩ = some q ∧ Below D w W ∧ (u.setCell ⟨D, 0, none⟩ p).setCell ⟨D, 1, none⟩ q = W ∧ u.cell? ⟨D, 0, none⟩ = some (.int .i64 0) ∧ u.cell? ⟨D, 1, none⟩ = some (.int .i64 0) ∧ u.frozen? ⟨D, 0, none⟩ = false ∧ u.frozen? ⟨D, 1, none⟩ = false from fun u p q F => by
    have Y := later_block F (unhide Y1)
    obtain ⟨W, y0, y1, gW, hW⟩ := two_sets Y p q
    exact ⟨W, y0, y1, (unhide b1).trans (Below.grown (F.mono (by have := unhide ZE; omega) : Below D w1 u) gW (by have := F.size; have := unhide ZE; omega) (fun g e => by have := Option.some.inj e; omega)), hW, box_cell Y 0 _ rfl, box_cell Y 1 _ rfl, mbox_free Y 0, mbox_free Y 1⟩)
  refine (takeNumbers_calls (unhide HB) m (unhide HM) hx 0 2 (Nat.zero_le _) (by omega)).mono ?_
  rintro e w2 ⟨hres, b2⟩
  have F2 := hide b2
  clear b2
  unfold NumRes at hres
  cases h1 : numsE l 2 0 with
  | error x =>
    rw [h1] at hres
    obtain ⟨rfl, hx0⟩ := hres
    have R := hide (show getCE l = .error x by rw [getCE, h1])
    have hx0' : ¬ ((x : Int) = 0) := by omega
    obtain ⟨W, y0, y1, bW, hW, z0, z1, z2, z3⟩ := unhide DONE w2 (.int .i64 0) (.int .i64 0) (unhide F2)
    have HW := hide hW
    clear hW
    go_wp2_with fail
    rw [unhide HW]
    go_wp2
    refine bodyPost_ret (v := .tuple #[cV 0 0, .int .i64 (x : Int)]) (by simp [results, Try.results39, go_sem, y0, y1]) rfl ?_
    exact ⟨by rw [unhide R]; exact ⟨rfl, hx0⟩, by first | exact bW | (rw [hD]; exact bW)⟩
  | ok r =>
    obtain ⟨xs, q⟩ := r
    rw [h1] at hres
    obtain ⟨spA, nA, cA, rfl, hnA, oA, hq⟩ := hres
    obtain ⟨x, y, rfl⟩ := list2 (nums_len_eq h1)
    obtain rfl : nA = 2 := hnA.symm
    have GE := hide (show getCE l = if q = m then (if mayM x y then .ok (x, y) else .error 4) else .error 4 by rw [getCE, h1]; simp only [List.getD_cons_zero, List.getD_cons_succ]; rw [unhide HM])
    obtain ⟨bb, off, rfl, p0⟩ := oA.ints.cell 0 (by simp)
    obtain ⟨bb', off', e', p1⟩ := oA.ints.cell 1 (by simp)
    cases e'
    simp only [List.getElem_cons_zero, List.getElem_cons_succ, Nat.add_zero] at p0 p1
    clear hnA oA h1 hq
    have G := hide (show Below w2.heap.size w2 w2.drew from (Below.refl _ _).drew)
    go_wp2_with fail
    refine wp_region_held_drew (S := fun w' => w'.cell? ⟨bb, off, none⟩ = some (.int .i64 x) ∧ w'.cell? ⟨bb, off + 1, none⟩ = some (.int .i64 y)) (by kernel_rfl) ?_ (fun hHeld => ?_)
    · try dsimp only
      first | exact ⟨cell_later (unhide G) p0, cell_later (unhide G) p1⟩ | (have t0 := cell_later (unhide G) p0; have t1 := cell_later (unhide G) p1; exact ⟨set2_cell t0 (by have := unhide HW; have := cell_lt p0; omega) _ _, set2_cell t1 (by have := unhide HW; have := cell_lt p0; omega) _ _⟩)
    refine held_take 0 (oi := { dst := some 18, op := Op.move (Operand.tmp 4), type := 22, pos := "bytes.go:86", after := #[], guard := none }) (v := ?_) (by kernel_rfl) rfl (by rfl) (by kernel_rfl) (by kernel_rfl) (fun _ _ _ h => h) ?_ (by assumption) ?_
    rotate_left
    · (intro w hSw; (try dsimp only at hSw); go_simp; try with_reducible rfl)
    try simp only [Act.put, List.setIfInBounds_toArray, List.set_cons_zero, List.set_cons_succ]
    refine held_take 1 (oi := { dst := some 19, op := Op.indexAddr 22 (Operand.tmp 18) (Operand.const (Value.int IntKind.i64 0)), type := 0, pos := "bytes.go:86", after := #[{ on := 0, ground := Ground.data }], guard := none }) (v := ?_) (by kernel_rfl) rfl (by rfl) (by kernel_rfl) (by kernel_rfl) (fun _ _ _ h => h) ?_ (by assumption) ?_
    rotate_left
    · (intro w hSw; (try dsimp only at hSw); go_simp; try with_reducible rfl)
    try simp only [Act.put, List.setIfInBounds_toArray, List.set_cons_zero, List.set_cons_succ]
    refine held_take 2 (oi := { dst := some 20, op := Op.load 3 (Operand.tmp 19), type := 3, pos := "bytes.go:86", after := #[{ on := 1, ground := Ground.data }], guard := none }) (v := ?_) (by kernel_rfl) rfl (by rfl) (by kernel_rfl) (by kernel_rfl) (fun _ _ _ h => h) ?_ (by assumption) ?_
    rotate_left
    · (intro w hSw; (try dsimp only at hSw); go_simp; try with_reducible rfl)
    try simp only [Act.put, List.setIfInBounds_toArray, List.set_cons_zero, List.set_cons_succ]
    refine held_take 3 (oi := { dst := some 21, op := Op.move (Operand.tmp 4), type := 22, pos := "bytes.go:86", after := #[], guard := none }) (v := ?_) (by kernel_rfl) rfl (by rfl) (by kernel_rfl) (by kernel_rfl) (fun _ _ _ h => h) ?_ (by assumption) ?_
    rotate_left
    · (intro w hSw; (try dsimp only at hSw); go_simp; try with_reducible rfl)
    try simp only [Act.put, List.setIfInBounds_toArray, List.set_cons_zero, List.set_cons_succ]
    refine held_take 4 (oi := { dst := some 22, op := Op.indexAddr 22 (Operand.tmp 21) (Operand.const (Value.int IntKind.i64 1)), type := 0, pos := "bytes.go:86", after := #[{ on := 3, ground := Ground.data }], guard := none }) (v := ?_) (by kernel_rfl) rfl (by rfl) (by kernel_rfl) (by kernel_rfl) (fun _ _ _ h => h) ?_ (by assumption) ?_
    rotate_left
    · (intro w hSw; (try dsimp only at hSw); go_simp; try with_reducible rfl)
    try simp only [Act.put, List.setIfInBounds_toArray, List.set_cons_zero, List.set_cons_succ]
    refine held_take 5 (oi := { dst := some 23, op := Op.load 3 (Operand.tmp 22), type := 3, pos := "bytes.go:86", after := #[{ on := 4, ground := Ground.data }], guard := none }) (v := ?_) (by kernel_rfl) rfl (by rfl) (by kernel_rfl) (by kernel_rfl) (fun _ _ _ h => h) ?_ (by assumption) ?_
    rotate_left
    · (intro w hSw; (try dsimp only at hSw); go_simp; try with_reducible rfl)
    try simp only [Act.put, List.setIfInBounds_toArray, List.set_cons_zero, List.set_cons_succ]
    refine held_take 6 (oi := { dst := some 24, op := Op.build 40 #[(0, Operand.tmp 20), (1, Operand.tmp 23)], type := 40, pos := "bytes.go:86", after := #[{ on := 2, ground := Ground.data }, { on := 5, ground := Ground.data }], guard := none }) (v := ?_) (by kernel_rfl) rfl (by rfl) (by kernel_rfl) (by kernel_rfl) (fun _ _ _ h => h) ?_ (by assumption) ?_
    rotate_left
    · (intro w hSw; (try dsimp only at hSw); go_simp; try with_reducible rfl)
    try simp only [Act.put, List.setIfInBounds_toArray, List.set_cons_zero, List.set_cons_succ]
    refine wpAnyH_ready (rs := [7]) (by kernel_rfl) (by simp) ?_
    refine AllReadyH.cons (o := { dst := some 7, op := Op.alloc 40, type := 0, pos := "bytes.go:86", after := #[], guard := none }) rfl (fun K hK => ?_) ?_
    · refine step_alloc40 rfl rfl ?_
      intro g W6 hg gx b6
      have GX := hide gx
      have HW := hide (show w2.heap.size ≤ g by have h2 := unhide hg; have := (unhide G).size; omega)
      have G := hide ((unhide G).trans (b6.mono (unhide G).size))
      clear gx b6 hg
      refine hK.out _ _ ?_ (fun hHeld => ?_)
      · try dsimp only
        first | exact ⟨cell_later (unhide G) p0, cell_later (unhide G) p1⟩ | (have t0 := cell_later (unhide G) p0; have t1 := cell_later (unhide G) p1; exact ⟨set2_cell t0 (by have := unhide HW; have := cell_lt p0; omega) _ _, set2_cell t1 (by have := unhide HW; have := cell_lt p0; omega) _ _⟩)
      clear hK K
      try simp only [Act.put, List.setIfInBounds_toArray, List.set_cons_zero, List.set_cons_succ]
      refine wpAnyH_ready (rs := [8]) (by kernel_rfl) (by simp) ?_
      refine AllReadyH.cons (o := { dst := none, op := Op.store 40 (Operand.tmp 7) (Operand.tmp 24), type := 0, pos := "bytes.go:86", after := #[{ on := 7, ground := Ground.data }, { on := 6, ground := Ground.data }, { on := 0, ground := Ground.phase }, { on := 1, ground := Ground.phase }, { on := 2, ground := Ground.phase }, { on := 3, ground := Ground.phase }, { on := 4, ground := Ground.phase }, { on := 5, ground := Ground.phase }, { on := 6, ground := Ground.phase }, { on := 7, ground := Ground.phase }], guard := none }) rfl (fun K hK => ?_) ?_
      · have z0 := box_cell (unhide GX) 0 _ rfl
        have z1 := box_cell (unhide GX) 1 _ rfl
        have z2 := mbox_free (unhide GX) 0
        have z3 := mbox_free (unhide GX) 1
        go_simp
        refine hK.out _ _ ?_ (fun hHeld => ?_)
        · try dsimp only
          first | exact ⟨cell_later (unhide G) p0, cell_later (unhide G) p1⟩ | (have t0 := cell_later (unhide G) p0; have t1 := cell_later (unhide G) p1; exact ⟨set2_cell t0 (by have := unhide HW; have := cell_lt p0; omega) _ _, set2_cell t1 (by have := unhide HW; have := cell_lt p0; omega) _ _⟩)
        clear hK K
        try simp only [Act.put, List.setIfInBounds_toArray, List.set_cons_zero, List.set_cons_succ]
        refine wpAnyH_done (by kernel_rfl) ?_ _
        obtain ⟨U, y0, y1, gU, hU⟩ := two_sets (unhide GX) (.int .i64 x) (.int .i64 y)
        rw [hU]
        have FU := hide ((unhide G).grown gU (unhide G).size (fun b e => by have := Option.some.inj e; have := unhide HW; omega))
        have EU := hide ((unhide F2).trans ((unhide FU).mono (unhide F2).size))
        clear hU gU hHeld p0 p1
        by_cases hqm : q = m
        · subst hqm
          go_wp2_with fail
          refine (changeMayBe_calls x y _).mono ?_
          rintro e w5 ⟨rfl, b5⟩
          have F5 := hide ((unhide EU).trans (b5.mono (unhide EU).size))
          have k0 := cell_later b5 y0
          have k1 := cell_later b5 y1
          clear b5 y0 y1
          cases hr : mayM x y
          · have R := hide (show getCE l = .error 4 by rw [unhide GE]; simp [hr])
            obtain ⟨W, y0, y1, bW, hW, z0, z1, z2, z3⟩ := unhide DONE w5 (.int .i64 0) (.int .i64 0) (unhide F5)
            have HW2 := hide hW
            clear hW
            go_wp2_with fail
            rw [unhide HW2]
            go_wp2
            refine bodyPost_ret (v := .tuple #[cV 0 0, .int .i64 4]) (by simp [results, Try.results39, go_sem, y0, y1]) rfl ?_
            exact ⟨by rw [unhide R]; exact ⟨rfl, by decide⟩, by first | exact bW | (rw [hD]; exact bW)⟩
          · have R := hide (show getCE l = .ok (x, y) by rw [unhide GE]; simp [hr])
            obtain ⟨W, y0, y1, bW, hW, z0, z1, z2, z3⟩ := unhide DONE w5 (.int .i64 x) (.int .i64 y) (unhide F5)
            have HW2 := hide hW
            clear hW
            go_wp2_with fail
            rw [unhide HW2]
            go_wp2
            refine bodyPost_ret (v := .tuple #[cV x y, .int .i64 0]) (by simp [results, Try.results39, go_sem, y0, y1]) rfl ?_
            exact ⟨by rw [unhide R]; exact rfl, by first | exact bW | (rw [hD]; exact bW)⟩
        · have hqm' : ¬ ((q : Int) = (m : Int)) := by omega
          have R := hide (show getCE l = .error 4 by rw [unhide GE, if_neg hqm])
          obtain ⟨W, y0', y1', bW, hW, z0, z1, z2, z3⟩ := unhide DONE U (.int .i64 0) (.int .i64 0) (unhide EU)
          have HW2 := hide hW
          clear hW
          go_wp2_with fail
          rw [unhide HW2]
          go_wp2
          refine bodyPost_ret (v := .tuple #[cV 0 0, .int .i64 4]) (by simp [results, Try.results39, go_sem, y0', y1']) rfl ?_
          exact ⟨by rw [unhide R]; exact ⟨rfl, by decide⟩, by first | exact bW | (rw [hD]; exact bW)⟩
      exact AllReadyH.nil
    exact AllReadyH.nil
theorem refTake_ok (m : Nat) (k n k2 : Nat) (kk : Int) (hm : l.length = m) (hkk : kk = (k : Int)) (hl : l.length ≤ 140737488355328) (hk : k ≤ l.length) (hb : BytesAt w a l) (ht : takeE l k = .ok (n, k2)) :
    Calls Try.prog 63 #[.slice a m c, .int .i64 kk] w fun e w' => e = .returned (.tuple #[.int .i64 (n : Int), .int .i64 (k2 : Int), .int .i64 0]) ∧ w' = w := by
  refine (refTake_calls a m c l k kk w hm hkk hl hk hb).mono fun e w' ⟨h1, h2⟩ => ⟨?_, h2⟩
  rw [h1]
  have := takeE_ok ht
  simp [takeV, this]
theorem refTake_bad (m : Nat) (k x : Nat) (kk : Int) (hm : l.length = m) (hkk : kk = (k : Int)) (hl : l.length ≤ 140737488355328) (hk : k ≤ l.length) (hb : BytesAt w a l) (ht : takeE l k = .error x) :
    Calls Try.prog 63 #[.slice a m c, .int .i64 kk] w fun e w' => e = .returned (.tuple #[.int .i64 0, .int .i64 0, .int .i64 (x : Int)]) ∧ w' = w := by
  refine (refTake_calls a m c l k kk w hm hkk hl hk hb).mono fun e w' ⟨h1, h2⟩ => ⟨?_, h2⟩
  rw [h1]
  obtain ⟨t1, t2⟩ := takeE_err ht
  simp [takeV, t1, t2]
end
end Go.Proofs.Ytnclkkoefejjiaa
