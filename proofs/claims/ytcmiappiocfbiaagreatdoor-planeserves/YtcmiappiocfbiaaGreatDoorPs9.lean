/- Plane: clone, the walk. -/
import Derived.Test.YtcmiappiocfbiaaGreatDoorPs8
namespace Go.Proofs.YtcmiappiocfbiaaGreatDoor
open Go.ChangeShapes Go.WideShapes Go.ChangeAt Go.RowKit
set_option linter.unusedVariables false

theorem RtsAt.keep {base : Nat} {w w' : World} {a : Option Addr} {l : List Rt} (h : RtsAt w a l) (ha : ∀ g o s, a = some ⟨g, o, s⟩ → base ≤ g) (hb : ∀ g, base ≤ g → g < w.heap.size → w'.heap[g]? = w.heap[g]?) : RtsAt w' a l :=
  ⟨h.sz, fun i hi => by
    obtain ⟨b, off, e, h1, h2, h3⟩ := h.cell i hi
    have hbl : w'.heap[b]? = w.heap[b]? := hb b (ha _ _ _ e) (World.block_lt_of_cell? _ _ h1)
    exact ⟨b, off, e, (World.cell?_of_block (w := w) (w' := w') hbl).trans h1, (World.cell?_of_block (w := w) (w' := w') hbl).trans h2, (World.cell?_of_block (w := w) (w' := w') hbl).trans h3⟩⟩
theorem RtsAt.aside {w : World} {a : Option Addr} {l : List Rt} {G k : Nat} {v : Value} (h : RtsAt w a l) (hne : l.length ≠ 0 → ∀ g o s, a = some ⟨g, o, s⟩ → g ≠ G) : RtsAt (w.setCell ⟨G, k, none⟩ v) a l :=
  ⟨h.sz, fun i hi => by
    obtain ⟨b, off, e, h1, h2, h3⟩ := h.cell i hi
    have n := hne (by omega) _ _ _ e
    exact ⟨b, off, e, (cell_aside _ _ n).trans h1, (cell_aside _ _ n).trans h2, (cell_aside _ _ n).trans h3⟩⟩
instance : Inhabited Pr := ⟨⟨⟨#[]⟩, none, 0, 0⟩⟩
/-- The pools of a configuration, as rows. -/
theorem pos_rows {w : World} {pa : Option Addr} {ps : List Po} (h : PosAt w pa ps) : ∃ prs : List Pr, prs.length = ps.length ∧ PrsAt w pa prs ∧ ∀ i (hi : i < ps.length) (hi' : i < prs.length), prs[i].nm = ps[i].nm ∧ prs[i].tn = ps[i].ts.length ∧ TgsAt w prs[i].ta ps[i].ts ∧ (prs[i].ta = none → prs[i].tc = 0) := by
  have one : ∀ i, i < ps.length → ∃ x : Pr, ∃ hi : i < ps.length, (∃ b off, pa = some ⟨b, off, none⟩ ∧ w.cell? ⟨b, off + i * 2, none⟩ = some (.string x.nm) ∧ w.cell? ⟨b, off + i * 2 + 1, none⟩ = some (.slice x.ta x.tn x.tc)) ∧ x.nm = ps[i].nm ∧ x.tn = ps[i].ts.length ∧ TgsAt w x.ta ps[i].ts ∧ (x.ta = none → x.tc = 0) := fun i hi => by
    obtain ⟨b, off, ta, tc, e, h1, h2, h3, h4, h5⟩ := h.cell i hi
    exact ⟨⟨ps[i].nm, ta, ps[i].ts.length, tc⟩, hi, ⟨b, off, e, h1, h2⟩, rfl, rfl, h3, h5⟩
  obtain ⟨f, hf⟩ := Deep.choose_lt (n := ps.length) (p := fun i (x : Pr) => ∃ hi : i < ps.length, (∃ b off, pa = some ⟨b, off, none⟩ ∧ w.cell? ⟨b, off + i * 2, none⟩ = some (.string x.nm) ∧ w.cell? ⟨b, off + i * 2 + 1, none⟩ = some (.slice x.ta x.tn x.tc)) ∧ x.nm = ps[i].nm ∧ x.tn = ps[i].ts.length ∧ TgsAt w x.ta ps[i].ts ∧ (x.ta = none → x.tc = 0)) one
  refine ⟨(List.range ps.length).map f, by simp, ⟨fun i hi => ?_⟩, fun i hi hi' => ?_⟩
  · have hi2 : i < ps.length := by simpa using hi
    have e : ((List.range ps.length).map f)[i] = f i := by simp
    rw [e]
    exact (hf i hi2).2.1
  · have e : ((List.range ps.length).map f)[i] = f i := by simp
    rw [e]
    obtain ⟨_, _, h⟩ := hf i hi
    exact h
/-- The row that is copied, ahead of the loop. -/
theorem OwnPr.pools {base G c : Nat} {w W : World} {prs : List Pr} {ps : List Po} (h : OwnPr base W (some ⟨G, 0, none⟩) c prs) (hl : prs.length = ps.length)
    (hp : ∀ i (hi : i < ps.length) (hi' : i < prs.length), prs[i].nm = ps[i].nm ∧ prs[i].tn = ps[i].ts.length ∧ TgsAt w prs[i].ta ps[i].ts ∧ (prs[i].ta = none → prs[i].tc = 0)) : PoolRow base G w W ps 0 ∧ ps.length ≤ c := by
  rcases h.2 with ⟨hv, h0⟩ | ⟨g', cap, cur, hv, hb, hg, hle, hmx, hsz, ht⟩
  · cases hv
  · simp only [Value.slice.injEq, Option.some.injEq, Addr.mk.injEq, and_true, true_and] at hv
    obtain ⟨rfl, rfl⟩ := hv
    refine ⟨⟨hb, cur, hg, fun q hq => ?_⟩, by omega⟩
    have hq' : q < prs.length := by omega
    obtain ⟨n1, n2, n3, n4⟩ := hp q hq hq'
    have one : ∀ f, f < 2 → cur[q * 2 + f]? = (prRow prs[q])[f]? := fun f hf => by
      have hk := rowsPr_get prs q f hq' hf
      rw [← Array.getElem?_toList]
      have hj : q * 2 + f < prs.length * 2 := by omega
      rw [← ht, List.getElem?_take, if_pos hj] at hk
      exact hk
    refine ⟨?_, prs[q].ta, prs[q].tc, ?_, fun h => by omega, fun _ => ⟨n3, n4⟩⟩
    · rw [show q * 2 = q * 2 + 0 from rfl, one 0 (by omega), ← n1]; rfl
    · rw [one 1 (by omega), ← n2]; rfl
theorem PoolRow.low {base base' G : Nat} {w wr : World} {ps : List Po} {j : Nat} (h : PoolRow base G w wr ps j) (hb : base' ≤ base) : PoolRow base' G w wr ps j := by
  obtain ⟨hG, cur, h1, h2⟩ := h
  refine ⟨Nat.le_trans hb hG, cur, h1, fun q hq => ?_⟩
  obtain ⟨n1, ta, tc, n2, n3, n4⟩ := h2 q hq
  exact ⟨n1, ta, tc, n2, fun hj => ⟨(n3 hj).1.low hb, (n3 hj).2⟩, n4⟩
/-- What stands while clone goes round. -/
structure ClInv (w : World) (ver : Int) (rs : List Rt) (ps : List Po) (ra' : Option Addr) (rc' : Nat) (pa' : Option Addr) (pc' : Nat) (wr : World) (j : Nat) : Prop where
  bw : Below w.heap.size w wr
  hB : wr.heap[w.heap.size]? = some (.cells #[.int .i64 ver, .slice ra' rs.length rc', .slice pa' ps.length pc'] 28 (0, 0))
  hC : wr.heap[w.heap.size + 1]? = some (.cells #[.int .i64 0, .slice none 0 0, .slice none 0 0] 28 (0, 0))
  rt : RtsAt wr ra' rs
  sep : rs.length ≠ 0 → ∀ g o s, ra' = some ⟨g, o, s⟩ → pa'.map (·.block) ≠ some g
  po : ps.length = 0 ∨ ∃ G, pa' = some ⟨G, 0, none⟩ ∧ PoolRow (w.heap.size + 2) G w wr ps j
theorem ClInv.stay {w : World} {ver : Int} {rs : List Rt} {ps : List Po} {ra' : Option Addr} {rc' : Nat} {pa' : Option Addr} {pc' : Nat} {wr VV : World} (I : ClInv w ver rs ps ra' rc' pa' pc' wr ps.length) (hr5 : ∀ g o s, ra' = some ⟨g, o, s⟩ → w.heap.size + 2 ≤ g)
    (hl : ∀ y ∈ ps, (∀ t ∈ y.ts, t.2 < 18446744073709551616) ∧ y.ts.length ≤ maxLen) (hb : ∀ g, w.heap.size + 2 ≤ g → VV.heap[g]? = wr.heap[g]?) (hs : wr.heap.size ≤ VV.heap.size) (wv : -9223372036854775808 ≤ ver ∧ ver ≤ 9223372036854775807) (rl : rs.length ≤ maxLen ∧ rs.length ≤ rc') (pl : ps.length ≤ maxLen ∧ ps.length ≤ pc') (rz : ra' = none → rc' = 0) : Stay w.heap.size VV ⟨ver, rs, ps⟩ ⟨ra', rc', pa', pc'⟩ := by
  intro w' hw'
  have key : ∀ g, w.heap.size + 2 ≤ g → g < wr.heap.size → w'.heap[g]? = wr.heap[g]? := fun g h1 h2 => (hw' g (by omega) (by omega)).trans (hb g h1)
  refine ⟨wv, I.rt.keep hr5 key, ?_, rl, pl, rz⟩
  rcases I.po with h0 | ⟨G, e, h⟩
  · exact ⟨fun i hi => by dsimp only at hi; omega⟩
  · dsimp only
    rw [e]
    exact (h.later key).pos hl
set_option maxRecDepth 20000 in
set_option maxHeartbeats 8000000 in
theorem clone_calls {w : World} {e : Cf} {h : CfH} (hc : CfAt w e h) (hr : e.rs.length ≤ 1000) (hp : e.ps.length ≤ 1000) (ht : ∀ y ∈ e.ps, y.ts.length ≤ 1000) :
    Calls Tryz.prog 16 #[cfVal e h] w fun r w' => ∃ h', r = .returned (cfVal e h') ∧ Stay w.heap.size w' e h' ∧ Below w.heap.size w w' := by
  obtain ⟨wv, rts, pos, ⟨rl, rl2⟩, ⟨pl, pl2⟩, rz⟩ := hc
  obtain ⟨ver, rs, ps⟩ := e
  obtain ⟨ra, rc, pa, pc⟩ := h
  unfold cfVal
  dsimp only at *
  obtain ⟨prs, hpl, hpa, hpr⟩ := pos_rows pos
  have X1 := heap_new w (.cells #[.int .i64 ver, .slice ra rs.length rc, .slice pa ps.length pc] 28)
  have s1 : (w.alloc (.cells #[.int .i64 ver, .slice ra rs.length rc, .slice pa ps.length pc] 28)).heap.size = w.heap.size + 1 := by simp
  have b1 : Below w.heap.size w (w.alloc (.cells #[.int .i64 ver, .slice ra rs.length rc, .slice pa ps.length pc] 28)) := (Below.refl _ _).alloc (Nat.le_refl _) _
  have X2 := heap_new (w.alloc (.cells #[.int .i64 ver, .slice ra rs.length rc, .slice pa ps.length pc] 28)) (.cells #[.int .i64 0, .slice none 0 0, .slice none 0 0] 28)
  rw [s1] at X2
  have b2 : Below (w.alloc (.cells #[.int .i64 ver, .slice ra rs.length rc, .slice pa ps.length pc] 28)).heap.size (w.alloc (.cells #[.int .i64 ver, .slice ra rs.length rc, .slice pa ps.length pc] 28)) ((w.alloc (.cells #[.int .i64 ver, .slice ra rs.length rc, .slice pa ps.length pc] 28)).alloc (.cells #[.int .i64 0, .slice none 0 0, .slice none 0 0] 28)) := (Below.refl _ _).alloc (Nat.le_refl _) _
  have XB := later_block b2 X1
  have B2 := b1.trans (b2.mono b1.size)
  have s2 := b2.size
  rw [s1] at s2
  have PC := hide (show ∀ V, Below w.heap.size w V → Calls Tryz.prog 28 #[.slice pa ps.length pc] V fun e w' => ∃ a' c', e = .returned (.slice a' ps.length c') ∧ OwnPr V.heap.size w' a' c' prs ∧ Below V.heap.size V w' from fun V hV => by
    have := cloneP_calls V pa pc prs (hpa.later hV) (by omega)
    rw [hpl] at this
    exact this)
  have k1 := box_cell XB 1 (.slice ra rs.length rc) rfl
  have s3 : w.heap.size + 2 ≤ ((w.alloc (.cells #[.int .i64 ver, .slice ra rs.length rc, .slice pa ps.length pc] 28)).alloc (.cells #[.int .i64 0, .slice none 0 0, .slice none 0 0] 28)).heap.size := by have := (Array.getElem?_eq_some_iff.1 X2).1; omega
  have RTS := hide rts
  have HPR := hide hpr
  have HT := hide ht
  have RC := hide (cloneR_calls _ ra rc rs (rts.later B2) hr)
  clear X1 b1 b2 s2 pos rts hpr ht hpa
  go_enter Tryz.func16, Tryz.ntmps16
  go_wp2_with fail
  go_at_call 27
  refine (unhide RC).mono ?_
  rintro e V1 ⟨ra', rc', rfl, r1, r2, r3, r4, v1⟩
  have YB := later_block v1 XB
  have YC := later_block v1 X2
  have F1 := B2.trans (v1.mono B2.size)
  have t1 := Nat.le_trans s3 v1.size
  have r5 : ∀ g o s, ra' = some ⟨g, o, s⟩ → w.heap.size + 2 ≤ g := fun g o s e => Nat.le_trans s3 (r4 g o s e)
  clear r4 v1 RC k1 XB X2 B2 s3
  have z1 := box_cell YB 1 (.slice ra rs.length rc) rfl
  have z2 := box_cell YB 2 (.slice pa ps.length pc) rfl
  have f1 := froz_of YB 1
  have F2 := F1.setCell (p := ⟨w.heap.size, 1, none⟩) (by simp) (.slice ra' rs.length rc')
  have YB2 := heap_setCell_same V1 w.heap.size 1 _ _ (.slice ra' rs.length rc') YB
  have YC2 := (heap_setCell_other V1 ⟨w.heap.size, 1, none⟩ (w.heap.size + 1) (.slice ra' rs.length rc') (by simp)).trans YC
  have t2 : w.heap.size + 2 ≤ (V1.setCell ⟨w.heap.size, 1, none⟩ (.slice ra' rs.length rc')).heap.size := by have := (Array.getElem?_eq_some_iff.1 YC2).1; omega
  have R2 := r1.keep r5 (w' := V1.setCell ⟨w.heap.size, 1, none⟩ (.slice ra' rs.length rc')) (fun g h1 _ => heap_setCell_other V1 ⟨w.heap.size, 1, none⟩ g _ (by simp; omega))
  have HF2 := hide F2
  have HYB := hide YB2
  have HYC := hide YC2
  have HR := hide R2
  have HT2 := hide t2
  have HR5 := hide r5
  clear F1 YB YC t1 r1 F2 YB2 YC2 R2 t2 r5
  go_wp2_with fail
  go_at_call 28
  refine (unhide PC _ (unhide HF2)).mono ?_
  rintro e V2 ⟨pa', pc', rfl, op, v2⟩
  have YB := later_block v2 (unhide HYB)
  have YC := later_block v2 (unhide HYC)
  have F1 := (unhide HF2).trans (v2.mono (unhide HF2).size)
  have y2 := box_cell YB 2 (.slice pa ps.length pc) rfl
  have f2 := froz_of YB 2
  have t2 := unhide HT2
  have hne : ∀ g, w.heap.size + 2 ≤ g → (V2.setCell ⟨w.heap.size, 2, none⟩ (.slice pa' ps.length pc')).heap[g]? = V2.heap[g]? := fun g hg => heap_setCell_other V2 ⟨w.heap.size, 2, none⟩ g _ (by simp; omega)
  have IV : ClInv w ver rs ps ra' rc' pa' pc' (V2.setCell ⟨w.heap.size, 2, none⟩ (.slice pa' ps.length pc')) 0 := by
    refine ⟨F1.setCell (p := ⟨w.heap.size, 2, none⟩) (by simp) _, heap_setCell_same V2 w.heap.size 2 _ _ (.slice pa' ps.length pc') YB, (heap_setCell_other V2 ⟨w.heap.size, 2, none⟩ (w.heap.size + 1) _ (by simp)).trans YC, ((unhide HR).later v2).keep (unhide HR5) (fun g h1 _ => hne g h1), ?_, ?_⟩
    · intro h0 g o s e e2
      obtain ⟨b, off, e3, c0, _⟩ := (unhide HR).cell 0 (by omega)
      have hbl := World.block_lt_of_cell? _ _ c0
      rw [e3] at e
      cases e
      rcases op.2 with ⟨hv, _⟩ | ⟨g', cap, cur, hv, hbg, r⟩
      · simp only [Value.slice.injEq] at hv
        obtain ⟨rfl, _⟩ := hv
        cases e2
      · simp only [Value.slice.injEq] at hv
        obtain ⟨rfl, _⟩ := hv
        cases e2
        dsimp only at hbl
        omega
    rcases op.2 with ⟨hv, h0⟩ | ⟨g', cap, cur, hv, r⟩
    · exact .inl (by omega)
    · have hv' := hv
      simp only [Value.slice.injEq] at hv'
      obtain ⟨rfl, _, rfl⟩ := hv'
      exact .inr ⟨g', rfl, ((op.pools hpl (unhide HPR)).1.low t2).later (fun g h1 _ => hne g h1)⟩
  have hcap : ps.length ≤ pc' ∧ (pa' = none → pc' = 0) := by
    rcases op.2 with ⟨hv, h0⟩ | ⟨g', cap, cur, hv, hb, hg, hle, r⟩
    · simp only [Value.slice.injEq] at hv
      exact ⟨by omega, fun _ => hv.2.2⟩
    · simp only [Value.slice.injEq] at hv
      obtain ⟨rfl, _, rfl⟩ := hv
      exact ⟨by omega, fun e => by cases e⟩
  have I0 := hide IV
  have c2 := box_cell IV.hB 2 (.slice pa' ps.length pc') rfl
  have HCP := hide hcap
  clear IV hne t2 F1 YB YC op v2 z1 z2 f1 hcap
  have hj64 : ps.length ≤ 1000 := hp
  go_wp2_with fail
  go_loopw [15] (fun i wr => ∃ j : Nat, j ≤ ps.length ∧ i = .int .i64 (j : Int) ∧ Hid (ClInv w ver rs ps ra' rc' pa' pc' wr j)) (fun i _ => ps.length - (intOf i).toNat)
  case atStart => exact ⟨0, by omega, rfl, hide (unhide I0)⟩
  case round =>
    obtain ⟨j, hj, rfl, I⟩ := hrel
    by_cases hjn : j < ps.length
    · obtain ⟨G, rfl, pr⟩ : ∃ G, pa' = some ⟨G, 0, none⟩ ∧ PoolRow (w.heap.size + 2) G w wr ps j := by
        rcases (unhide I).po with h0 | h
        · omega
        · exact h
      obtain ⟨hG, cur, h1, h2⟩ := id pr
      obtain ⟨n1, ta, tc, n2, _, n4⟩ := h2 j hjn
      obtain ⟨tg, tz⟩ := n4 (Nat.le_refl _)
      have hle := unhide HT _ (List.getElem_mem hjn)
      have cB := box_cell (unhide I).hB 2 (.slice (some ⟨G, 0, none⟩) ps.length pc') rfl
      have cg := box_cell h1 (j * 2 + 1) _ n2
      have cg' : wr.drew.cell? ⟨G, j * 2 + 1, none⟩ = some (.slice ta ps[j].ts.length tc) := cg
      have hGl := (Array.getElem?_eq_some_iff.1 h1).1
      have TC := hide (show ∀ V, Below w.heap.size w V → Calls Tryz.prog 29 #[.slice ta ps[j].ts.length tc] V fun e w' => ∃ a' c', e = .returned (.slice a' ps[j].ts.length c') ∧ OwnT V.heap.size w' a' c' ps[j].ts ∧ Below V.heap.size V w' from fun V hV => cloneT_calls V ta tc ps[j].ts (tg.later hV) hle)
      have PR := hide pr
      have hj0 : (0 : Int) ≤ (j : Int) := by omega
      have hj1 : (j : Int) < (ps.length : Int) := by omega
      clear n1 n2 n4 tg tz hle h1 h2 pr
      go_wp2_with fail
      have W := hide (show Below wr.heap.size wr wr.drew from (Below.refl _ _).drew)
      refine wp_region_held_drew (S := fun w' => w'.cell? ⟨w.heap.size, 2, none⟩ = some (.slice (some ⟨G, 0, none⟩) ps.length pc')) (by kernel_rfl) ?_ (fun hHeld => ?_)
      · try dsimp only
        first | exact cB | exact cB2 | exact cB3
      refine held_take 0 (oi := { dst := some 18, op := Op.fieldAddr 28 (Operand.tmp 1) 2, type := 0, pos := "plane.go:50", after := #[], guard := none }) (v := ?_) (by kernel_rfl) rfl (by rfl) (by kernel_rfl) (by kernel_rfl) (fun _ _ _ h => h) ?_ (by assumption) ?_
      rotate_left
      · (intro w hSw; (try dsimp only at hSw); go_simp; try with_reducible rfl)
      try simp only [Act.put, List.setIfInBounds_toArray, List.set_cons_zero, List.set_cons_succ]
      refine held_take 1 (oi := { dst := some 19, op := Op.load 26 (Operand.tmp 18), type := 26, pos := "plane.go:50", after := #[{ on := 0, ground := Ground.data }], guard := none }) (v := ?_) (by kernel_rfl) rfl (by rfl) (by kernel_rfl) (by kernel_rfl) (fun _ _ _ h => h) ?_ (by assumption) ?_
      rotate_left
      · (intro w hSw; (try dsimp only at hSw); go_simp; try with_reducible rfl)
      try simp only [Act.put, List.setIfInBounds_toArray, List.set_cons_zero, List.set_cons_succ]
      refine held_take 2 (oi := { dst := some 20, op := Op.move (Operand.tmp 3), type := 3, pos := "plane.go:50", after := #[], guard := none }) (v := ?_) (by kernel_rfl) rfl (by rfl) (by kernel_rfl) (by kernel_rfl) (fun _ _ _ h => h) ?_ (by assumption) ?_
      rotate_left
      · (intro w hSw; (try dsimp only at hSw); go_simp; try with_reducible rfl)
      try simp only [Act.put, List.setIfInBounds_toArray, List.set_cons_zero, List.set_cons_succ]
      refine held_take 3 (oi := { dst := some 21, op := Op.fieldAddr 28 (Operand.tmp 1) 2, type := 0, pos := "plane.go:50", after := #[], guard := none }) (v := ?_) (by kernel_rfl) rfl (by rfl) (by kernel_rfl) (by kernel_rfl) (fun _ _ _ h => h) ?_ (by assumption) ?_
      rotate_left
      · (intro w hSw; (try dsimp only at hSw); go_simp; try with_reducible rfl)
      try simp only [Act.put, List.setIfInBounds_toArray, List.set_cons_zero, List.set_cons_succ]
      refine held_take 4 (oi := { dst := some 22, op := Op.load 26 (Operand.tmp 21), type := 26, pos := "plane.go:50", after := #[{ on := 3, ground := Ground.data }], guard := none }) (v := ?_) (by kernel_rfl) rfl (by rfl) (by kernel_rfl) (by kernel_rfl) (fun _ _ _ h => h) ?_ (by assumption) ?_
      rotate_left
      · (intro w hSw; (try dsimp only at hSw); go_simp; try with_reducible rfl)
      try simp only [Act.put, List.setIfInBounds_toArray, List.set_cons_zero, List.set_cons_succ]
      refine held_take 5 (oi := { dst := some 23, op := Op.move (Operand.tmp 3), type := 3, pos := "plane.go:50", after := #[], guard := none }) (v := ?_) (by kernel_rfl) rfl (by rfl) (by kernel_rfl) (by kernel_rfl) (fun _ _ _ h => h) ?_ (by assumption) ?_
      rotate_left
      · (intro w hSw; (try dsimp only at hSw); go_simp; try with_reducible rfl)
      try simp only [Act.put, List.setIfInBounds_toArray, List.set_cons_zero, List.set_cons_succ]
      refine held_take 6 (oi := { dst := some 24, op := Op.indexAddr 26 (Operand.tmp 22) (Operand.tmp 23), type := 0, pos := "plane.go:50", after := #[{ on := 4, ground := Ground.data }, { on := 5, ground := Ground.data }], guard := none }) (v := ?_) (by kernel_rfl) rfl (by rfl) (by kernel_rfl) (by kernel_rfl) (fun _ _ _ h => h) ?_ (by assumption) ?_
      rotate_left
      · (intro w hSw; (try dsimp only at hSw); go_simp; try with_reducible rfl)
      try simp only [Act.put, List.setIfInBounds_toArray, List.set_cons_zero, List.set_cons_succ]
      refine held_take 7 (oi := { dst := some 25, op := Op.fieldAddr 39 (Operand.tmp 24) 1, type := 0, pos := "plane.go:50", after := #[{ on := 6, ground := Ground.data }], guard := none }) (v := ?_) (by kernel_rfl) rfl (by rfl) (by kernel_rfl) (by kernel_rfl) (fun _ _ _ h => h) ?_ (by assumption) ?_
      rotate_left
      · (intro w hSw; (try dsimp only at hSw); go_simp; try with_reducible rfl)
      try simp only [Act.put, List.setIfInBounds_toArray, List.set_cons_zero, List.set_cons_succ]
      refine wpAnyH_ready (rs := [8]) (by kernel_rfl) (by simp) ?_
      refine AllReadyH.cons (o := { dst := some 26, op := Op.load 37 (Operand.tmp 25), type := 37, pos := "plane.go:50", after := #[{ on := 7, ground := Ground.data }], guard := none }) rfl (fun K hK => ?_) ?_
      · go_simp
        refine hK.out _ _ ?_ (fun hHeld => ?_)
        · try dsimp only
          first | exact cB | exact cB2 | exact cB3
        clear hK K
        try simp only [Act.put, List.setIfInBounds_toArray, List.set_cons_zero, List.set_cons_succ]
        refine wpAnyH_ready (rs := [9]) (by kernel_rfl) (by simp) ?_
        refine AllReadyH.cons (o := { dst := some 27, op := Op.call { callee := Callee.value (Operand.func 29), args := #[Operand.tmp 26], argTypes := #[37] }, type := 37, pos := "plane.go:50", after := #[{ on := 8, ground := Ground.data }], guard := none }) rfl (fun K hK => ?_) ?_
        · go_simp
          go_at_call 29
          refine (unhide TC _ ((unhide I).bw.trans ((unhide W).mono (unhide I).bw.size))).mono ?_
          rintro e V3 ⟨ta', tc', rfl, ot, v3⟩
          have v4 := (unhide W).trans (v3.mono (unhide W).size)
          have I2 := hide (show ClInv w ver rs ps ra' rc' (some ⟨G, 0, none⟩) pc' V3 j from ⟨(unhide I).bw.trans (v4.mono (unhide I).bw.size), later_block v4 (unhide I).hB, later_block v4 (unhide I).hC, (unhide I).rt.later v4, (unhide I).sep, .inr ⟨G, rfl, (unhide PR).later (fun g _ h2 => v4.block g h2)⟩⟩)
          have OT := hide (show OwnT (w.heap.size + 2) V3 ta' tc' ps[j].ts from ot.low (by have := v4.size; have := (Array.getElem?_eq_some_iff.1 (unhide I).hC).1; have := (unhide W).size; omega))
          have NG := hide (show ta'.map (·.block) ≠ some G from fun e => by have := (ot.lt G e).1; have := (unhide W).size; omega)
          have cB2 := box_cell (unhide I2).hB 2 (.slice (some ⟨G, 0, none⟩) ps.length pc') rfl
          have zg := cell_later v4 cg
          have fg : V3.frozen? ⟨G, j * 2 + 1, none⟩ = false := by
            obtain ⟨_, cur3, h3, _⟩ := (unhide PR).later (wr' := V3) (fun g _ h2 => v4.block g h2)
            exact froz_of h3 _
          clear ot v3 v4
          go_wp2_with fail
          refine hK.out _ _ ?_ (fun hHeld => ?_)
          · try dsimp only
            first | exact cB | exact cB2 | exact cB3
          clear hK K
          try simp only [Act.put, List.setIfInBounds_toArray, List.set_cons_zero, List.set_cons_succ]
          refine held_take 10 (oi := { dst := some 28, op := Op.indexAddr 26 (Operand.tmp 19) (Operand.tmp 20), type := 0, pos := "plane.go:50", after := #[{ on := 1, ground := Ground.data }, { on := 2, ground := Ground.data }, { on := 0, ground := Ground.phase }, { on := 1, ground := Ground.phase }, { on := 2, ground := Ground.phase }, { on := 3, ground := Ground.phase }, { on := 4, ground := Ground.phase }, { on := 5, ground := Ground.phase }, { on := 6, ground := Ground.phase }, { on := 7, ground := Ground.phase }, { on := 8, ground := Ground.phase }, { on := 9, ground := Ground.phase }], guard := none }) (v := ?_) (by kernel_rfl) rfl (by rfl) (by kernel_rfl) (by kernel_rfl) (fun _ _ _ h => h) ?_ (by assumption) ?_
          rotate_left
          · (intro w hSw; (try dsimp only at hSw); go_simp; try with_reducible rfl)
          try simp only [Act.put, List.setIfInBounds_toArray, List.set_cons_zero, List.set_cons_succ]
          refine held_take 11 (oi := { dst := some 29, op := Op.fieldAddr 39 (Operand.tmp 28) 1, type := 0, pos := "plane.go:50", after := #[{ on := 10, ground := Ground.data }, { on := 0, ground := Ground.phase }, { on := 1, ground := Ground.phase }, { on := 2, ground := Ground.phase }, { on := 3, ground := Ground.phase }, { on := 4, ground := Ground.phase }, { on := 5, ground := Ground.phase }, { on := 6, ground := Ground.phase }, { on := 7, ground := Ground.phase }, { on := 8, ground := Ground.phase }, { on := 9, ground := Ground.phase }], guard := none }) (v := ?_) (by kernel_rfl) rfl (by rfl) (by kernel_rfl) (by kernel_rfl) (fun _ _ _ h => h) ?_ (by assumption) ?_
          rotate_left
          · (intro w hSw; (try dsimp only at hSw); go_simp; try with_reducible rfl)
          try simp only [Act.put, List.setIfInBounds_toArray, List.set_cons_zero, List.set_cons_succ]
          refine wpAnyH_ready (rs := [12]) (by kernel_rfl) (by simp) ?_
          refine AllReadyH.cons (o := { dst := none, op := Op.store 37 (Operand.tmp 29) (Operand.tmp 27), type := 0, pos := "plane.go:50", after := #[{ on := 11, ground := Ground.data }, { on := 9, ground := Ground.data }, { on := 9, ground := Ground.chain }, { on := 0, ground := Ground.phase }, { on := 1, ground := Ground.phase }, { on := 2, ground := Ground.phase }, { on := 3, ground := Ground.phase }, { on := 4, ground := Ground.phase }, { on := 5, ground := Ground.phase }, { on := 6, ground := Ground.phase }, { on := 7, ground := Ground.phase }, { on := 8, ground := Ground.phase }, { on := 9, ground := Ground.phase }], guard := none }) rfl (fun K hK => ?_) ?_
          · go_simp
            have I3 := hide (show ClInv w ver rs ps ra' rc' (some ⟨G, 0, none⟩) pc' (V3.setCell ⟨G, j * 2 + 1, none⟩ (.slice ta' ps[j].ts.length tc')) (j + 1) from by
              have oth : ∀ g, g ≠ G → (V3.setCell ⟨G, j * 2 + 1, none⟩ (.slice ta' ps[j].ts.length tc')).heap[g]? = V3.heap[g]? := fun g hg => heap_setCell_other V3 ⟨G, j * 2 + 1, none⟩ g _ hg
              refine ⟨(unhide I2).bw.setCell (p := ⟨G, j * 2 + 1, none⟩) (by dsimp only; omega) _, (oth _ (by omega)).trans (unhide I2).hB, (oth _ (by omega)).trans (unhide I2).hC, (unhide I2).rt.aside (fun h0 g o s e e2 => (unhide I2).sep h0 g o s e (by rw [e2]; rfl)), (unhide I2).sep, .inr ⟨G, rfl, ?_⟩⟩
              · rcases (unhide I2).po with h0 | ⟨G', e, h⟩
                · omega
                · cases e
                  exact h.step hjn ta' tc' (unhide OT) (unhide NG))
            have cB3 := box_cell (unhide I3).hB 2 (.slice (some ⟨G, 0, none⟩) ps.length pc') rfl
            refine hK.out _ _ ?_ (fun hHeld => ?_)
            · try dsimp only
              first | exact cB | exact cB2 | exact cB3
            clear hK K
            try simp only [Act.put, List.setIfInBounds_toArray, List.set_cons_zero, List.set_cons_succ]
            refine wpAnyH_done (by kernel_rfl) ?_ _
            go_wp2_with fail
            exact ⟨⟨j + 1, by omega, by go_num, unhide I3⟩, by simp [intOf]; omega⟩
          exact AllReadyH.nil
        exact AllReadyH.nil
      exact AllReadyH.nil
    · have d0 := box_cell (unhide I).hB 0 (.int .i64 ver) rfl
      have d1 := box_cell (unhide I).hB 1 (.slice ra' rs.length rc') rfl
      have d2 := box_cell (unhide I).hB 2 (.slice pa' ps.length pc') rfl
      have e0 := box_cell (unhide I).hC 0 (.int .i64 0) rfl
      have e1 := box_cell (unhide I).hC 1 (.slice none 0 0) rfl
      have e2 := box_cell (unhide I).hC 2 (.slice none 0 0) rfl
      have f0 := froz_of (unhide I).hC 0
      have f1 := froz_of (unhide I).hC 1
      have f2 := froz_of (unhide I).hC 2
      go_wp2_with fail
      clear d0 d1 d2 e0 e1 e2 f0 f1 f2
      have Z := heap_setCell_same _ (w.heap.size + 1) 2 _ _ (.slice pa' ps.length pc') (heap_setCell_same _ (w.heap.size + 1) 1 _ _ (.slice ra' rs.length rc') (heap_setCell_same wr (w.heap.size + 1) 0 _ _ (.int .i64 ver) (unhide I).hC))
      have k0 := box_cell Z 0 (.int .i64 ver) rfl
      have k1 := box_cell Z 1 (.slice ra' rs.length rc') rfl
      have k2 := box_cell Z 2 (.slice pa' ps.length pc') rfl
      have VB := (((unhide I).bw.setCell (p := ⟨w.heap.size + 1, 0, none⟩) (by simp) (.int .i64 ver)).setCell (p := ⟨w.heap.size + 1, 1, none⟩) (by simp) (.slice ra' rs.length rc')).setCell (p := ⟨w.heap.size + 1, 2, none⟩) (by simp) (.slice pa' ps.length pc')
      have VS : wr.heap.size ≤ (((wr.setCell ⟨w.heap.size + 1, 0, none⟩ (.int .i64 ver)).setCell ⟨w.heap.size + 1, 1, none⟩ (.slice ra' rs.length rc')).setCell ⟨w.heap.size + 1, 2, none⟩ (.slice pa' ps.length pc')).heap.size := by simp [World.setCell]
      have VO : ∀ g, w.heap.size + 2 ≤ g → (((wr.setCell ⟨w.heap.size + 1, 0, none⟩ (.int .i64 ver)).setCell ⟨w.heap.size + 1, 1, none⟩ (.slice ra' rs.length rc')).setCell ⟨w.heap.size + 1, 2, none⟩ (.slice pa' ps.length pc')).heap[g]? = wr.heap[g]? := fun g hg => (heap_setCell_other _ ⟨w.heap.size + 1, 2, none⟩ g _ (by simp; omega)).trans ((heap_setCell_other _ ⟨w.heap.size + 1, 1, none⟩ g _ (by simp; omega)).trans (heap_setCell_other wr ⟨w.heap.size + 1, 0, none⟩ g _ (by simp; omega)))
      generalize ((wr.setCell ⟨w.heap.size + 1, 0, none⟩ (.int .i64 ver)).setCell ⟨w.heap.size + 1, 1, none⟩ (.slice ra' rs.length rc')).setCell ⟨w.heap.size + 1, 2, none⟩ (.slice pa' ps.length pc') = VV at *
      have hjj : j = ps.length := by omega
      subst hjj
      refine bodyPost_ret (v := .agg #[.int .i64 ver, .slice ra' rs.length rc', .slice pa' ps.length pc']) (by simp [results, Tryz.results16, go_sem, k0, k1, k2]) rfl ⟨⟨ra', rc', pa', pc'⟩, rfl, (unhide I).stay (unhide HR5) ?_ VO VS wv ⟨rl, r2⟩ ⟨pl, (unhide HCP).1⟩ r3, VB⟩
      intro y hy
      obtain ⟨q, hq, rfl⟩ := List.getElem_of_mem hy
      exact ⟨((unhide HPR) q hq (by omega)).2.2.1.lt, by have := unhide HT _ hy; simp only [maxLen]; omega⟩
end Go.Proofs.YtcmiappiocfbiaaGreatDoor
