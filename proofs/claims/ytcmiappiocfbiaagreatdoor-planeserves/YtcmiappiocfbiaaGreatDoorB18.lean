/- Plane: clone, the walk. -/
import Derived.Test.YtcmiappiocfbiaaGreatDoorB17
import Derived.Test.YtcmiappiocfbiaaGreatDoorB05
import Derived.Test.YtcmiappiocfbiaaGreatDoorB04
section
namespace Go.Proofs.YtcmiappiocfbiaaGreatDoor
open Go.ChangeShapes Go.WideShapes Go.ChangeAt Go.RowKit
set_option linter.unusedVariables false

theorem RtsAt.keep {base : Nat} {w w' : World} {a : Option Addr} {l : List Rt} (h : RtsAt w a l) (ha : ∀ g o s, a = some ⟨g, o, s⟩ → base ≤ g) (hb : ∀ g, base ≤ g → g < w.heap.size → w'.heap[g]? = w.heap[g]?) : RtsAt w' a l :=
  ⟨h.sz, fun i hi => by
    obtain ⟨b, off, e, h1, h2, h3⟩ := h.cell i hi
    have hbl : w'.heap[b]? = w.heap[b]? := hb b (ha _ _ _ e) (World.block_lt_of_cell? _ _ h1)
    exact ⟨b, off, e, (World.cell?_of_block (w := w) (w' := w') hbl).trans h1, (World.cell?_of_block (w := w) (w' := w') hbl).trans h2, (World.cell?_of_block (w := w) (w' := w') hbl).trans h3⟩⟩
theorem RtsAt.aside {w : World} {a : Option Addr} {l : List Rt} {G k : Nat} {v : Value} (h : RtsAt w a l) (hne : l.length ≠ 0 → ∀ g o s, a = some ⟨g, o, s⟩ → g ≠ G) : RtsAt (w.setCell ⟨G, k, none⟩ v) a l :=
  ⟨h.sz, fun i hi => by
    obtain ⟨b, off, e, h1, h2, h3⟩ := h.cell i hi
    have n := hne (by omega) _ _ _ e
    exact ⟨b, off, e, (cell_aside _ _ n).trans h1, (cell_aside _ _ n).trans h2, (cell_aside _ _ n).trans h3⟩⟩
instance : Inhabited Pr := ⟨⟨⟨#[]⟩, none, 0, 0⟩⟩
/-- The pools of a configuration, as rows. -/
theorem pos_rows {w : World} {pa : Option Addr} {ps : List Po} (h : PosAt w pa ps) : ∃ prs : List Pr, prs.length = ps.length ∧ PrsAt w pa prs ∧ ∀ i (hi : i < ps.length) (hi' : i < prs.length), prs[i].nm = ps[i].nm ∧ prs[i].tn = ps[i].ts.length ∧ TgsAt w prs[i].ta ps[i].ts ∧ (prs[i].ta = none → prs[i].tc = 0) := by
  have one : ∀ i, i < ps.length → ∃ x : Pr, ∃ hi : i < ps.length, (∃ b off, pa = some ⟨b, off, none⟩ ∧ w.cell? ⟨b, off + i * 2, none⟩ = some (.string x.nm) ∧ w.cell? ⟨b, off + i * 2 + 1, none⟩ = some (.slice x.ta x.tn x.tc)) ∧ x.nm = ps[i].nm ∧ x.tn = ps[i].ts.length ∧ TgsAt w x.ta ps[i].ts ∧ (x.ta = none → x.tc = 0) := fun i hi => by
    obtain ⟨b, off, ta, tc, e, h1, h2, h3, h4, h5⟩ := h.cell i hi
    exact ⟨⟨ps[i].nm, ta, ps[i].ts.length, tc⟩, hi, ⟨b, off, e, h1, h2⟩, rfl, rfl, h3, h5⟩
  obtain ⟨f, hf⟩ := Deep.choose_lt (n := ps.length) (p := fun i (x : Pr) => ∃ hi : i < ps.length, (∃ b off, pa = some ⟨b, off, none⟩ ∧ w.cell? ⟨b, off + i * 2, none⟩ = some (.string x.nm) ∧ w.cell? ⟨b, off + i * 2 + 1, none⟩ = some (.slice x.ta x.tn x.tc)) ∧ x.nm = ps[i].nm ∧ x.tn = ps[i].ts.length ∧ TgsAt w x.ta ps[i].ts ∧ (x.ta = none → x.tc = 0)) one
  refine ⟨(List.range ps.length).map f, by simp, ⟨fun i hi => ?_⟩, fun i hi hi' => ?_⟩
  · have hi2 : i < ps.length := by simpa using hi
    have e : ((List.range ps.length).map f)[i] = f i := by simp
    rw [e]
    exact (hf i hi2).2.1
  · have e : ((List.range ps.length).map f)[i] = f i := by simp
    rw [e]
    obtain ⟨_, _, h⟩ := hf i hi
    exact h
/-- The row that is copied, ahead of the loop. -/
theorem OwnPr.pools {base G c : Nat} {w W : World} {prs : List Pr} {ps : List Po} (h : OwnPr base W (some ⟨G, 0, none⟩) c prs) (hl : prs.length = ps.length)
    (hp : ∀ i (hi : i < ps.length) (hi' : i < prs.length), prs[i].nm = ps[i].nm ∧ prs[i].tn = ps[i].ts.length ∧ TgsAt w prs[i].ta ps[i].ts ∧ (prs[i].ta = none → prs[i].tc = 0)) : PoolRow base G w W ps 0 ∧ ps.length ≤ c := by
  rcases h.2 with ⟨hv, h0⟩ | ⟨g', cap, cur, hv, hb, hg, hle, hmx, hsz, ht⟩
  · cases hv
  · simp only [Value.slice.injEq, Option.some.injEq, Addr.mk.injEq, and_true, true_and] at hv
    obtain ⟨rfl, rfl⟩ := hv
    refine ⟨⟨hb, cur, hg, fun q hq => ?_⟩, by omega⟩
    have hq' : q < prs.length := by omega
    obtain ⟨n1, n2, n3, n4⟩ := hp q hq hq'
    have one : ∀ f, f < 2 → cur[q * 2 + f]? = (prRow prs[q])[f]? := fun f hf => by
      have hk := rowsPr_get prs q f hq' hf
      rw [← Array.getElem?_toList]
      have hj : q * 2 + f < prs.length * 2 := by omega
      rw [← ht, List.getElem?_take, if_pos hj] at hk
      exact hk
    refine ⟨?_, prs[q].ta, prs[q].tc, ?_, fun h => by omega, fun _ => ⟨n3, n4⟩⟩
    · rw [show q * 2 = q * 2 + 0 from rfl, one 0 (by omega), ← n1]; rfl
    · rw [one 1 (by omega), ← n2]; rfl
theorem PoolRow.low {base base' G : Nat} {w wr : World} {ps : List Po} {j : Nat} (h : PoolRow base G w wr ps j) (hb : base' ≤ base) : PoolRow base' G w wr ps j := by
  obtain ⟨hG, cur, h1, h2⟩ := h
  refine ⟨Nat.le_trans hb hG, cur, h1, fun q hq => ?_⟩
  obtain ⟨n1, ta, tc, n2, n3, n4⟩ := h2 q hq
  exact ⟨n1, ta, tc, n2, fun hj => ⟨(n3 hj).1.low hb, (n3 hj).2⟩, n4⟩
/-- What stands while clone goes round. -/
structure ClInv (w : World) (ver : Int) (rs : List Rt) (ps : List Po) (ra' : Option Addr) (rc' : Nat) (pa' : Option Addr) (pc' : Nat) (wr : World) (j : Nat) : Prop where
  bw : Below w.heap.size w wr
  hB : wr.heap[w.heap.size]? = some (.cells #[.int .i64 ver, .slice ra' rs.length rc', .slice pa' ps.length pc'] 28 (0, 0))
  hC : wr.heap[w.heap.size + 1]? = some (.cells #[.int .i64 0, .slice none 0 0, .slice none 0 0] 28 (0, 0))
  rt : RtsAt wr ra' rs
  sep : rs.length ≠ 0 → ∀ g o s, ra' = some ⟨g, o, s⟩ → pa'.map (·.block) ≠ some g
  po : ps.length = 0 ∨ ∃ G, pa' = some ⟨G, 0, none⟩ ∧ PoolRow (w.heap.size + 2) G w wr ps j
theorem ClInv.stay {w : World} {ver : Int} {rs : List Rt} {ps : List Po} {ra' : Option Addr} {rc' : Nat} {pa' : Option Addr} {pc' : Nat} {wr VV : World} (I : ClInv w ver rs ps ra' rc' pa' pc' wr ps.length) (hr5 : ∀ g o s, ra' = some ⟨g, o, s⟩ → w.heap.size + 2 ≤ g)
    (hl : ∀ y ∈ ps, (∀ t ∈ y.ts, t.2 < 18446744073709551616) ∧ y.ts.length ≤ maxLen) (hb : ∀ g, w.heap.size + 2 ≤ g → VV.heap[g]? = wr.heap[g]?) (hs : wr.heap.size ≤ VV.heap.size) (wv : -9223372036854775808 ≤ ver ∧ ver ≤ 9223372036854775807) (rl : rs.length ≤ maxLen ∧ rs.length ≤ rc') (pl : ps.length ≤ maxLen ∧ ps.length ≤ pc') (rz : ra' = none → rc' = 0) : Stay w.heap.size VV ⟨ver, rs, ps⟩ ⟨ra', rc', pa', pc'⟩ := by
  intro w' hw'
  have key : ∀ g, w.heap.size + 2 ≤ g → g < wr.heap.size → w'.heap[g]? = wr.heap[g]? := fun g h1 h2 => (hw' g (by omega) (by omega)).trans (hb g h1)
  refine ⟨wv, I.rt.keep hr5 key, ?_, rl, pl, rz⟩
  rcases I.po with h0 | ⟨G, e, h⟩
  · exact ⟨fun i hi => by dsimp only at hi; omega⟩
  · dsimp only
    rw [e]
    exact (h.later key).pos hl
set_option maxRecDepth 20000 in
set_option maxHeartbeats 8000000 in
theorem clone_calls {w : World} {e : Cf} {h : CfH} (hc : CfAt w e h) (hr : e.rs.length ≤ 1000) (hp : e.ps.length ≤ 1000) (ht : ∀ y ∈ e.ps, y.ts.length ≤ 1000) :
    Calls Tryz.prog 16 #[cfVal e h] w fun r w' => ∃ h', r = .returned (cfVal e h') ∧ Stay w.heap.size w' e h' ∧ Below w.heap.size w w' := by
  obtain ⟨wv, rts, pos, ⟨rl, rl2⟩, ⟨pl, pl2⟩, rz⟩ := hc
  obtain ⟨ver, rs, ps⟩ := e
  obtain ⟨ra, rc, pa, pc⟩ := h
  unfold cfVal
  dsimp only at *
  obtain ⟨prs, hpl, hpa, hpr⟩ := pos_rows pos
  have X1 := heap_new w (.cells #[.int .i64 ver, .slice ra rs.length rc, .slice pa ps.length pc] 28)
  have s1 : (w.alloc (.cells #[.int .i64 ver, .slice ra rs.length rc, .slice pa ps.length pc] 28)).heap.size = w.heap.size + 1 := by simp
  have b1 : Below w.heap.size w (w.alloc (.cells #[.int .i64 ver, .slice ra rs.length rc, .slice pa ps.length pc] 28)) := (Below.refl _ _).alloc (Nat.le_refl _) _
  have X2 := heap_new (w.alloc (.cells #[.int .i64 ver, .slice ra rs.length rc, .slice pa ps.length pc] 28)) (.cells #[.int .i64 0, .slice none 0 0, .slice none 0 0] 28)
  rw [s1] at X2
  have b2 : Below (w.alloc (.cells #[.int .i64 ver, .slice ra rs.length rc, .slice pa ps.length pc] 28)).heap.size (w.alloc (.cells #[.int .i64 ver, .slice ra rs.length rc, .slice pa ps.length pc] 28)) ((w.alloc (.cells #[.int .i64 ver, .slice ra rs.length rc, .slice pa ps.length pc] 28)).alloc (.cells #[.int .i64 0, .slice none 0 0, .slice none 0 0] 28)) := (Below.refl _ _).alloc (Nat.le_refl _) _
  have XB := later_block b2 X1
  have B2 := b1.trans (b2.mono b1.size)
  have s2 := b2.size
  rw [s1] at s2
  have PC := hide (show ∀ V, Below w.heap.size w V → Calls Tryz.prog 28 #[.slice pa ps.length pc] V fun e w' => ∃ a' c', e = .returned (.slice a' ps.length c') ∧ OwnPr V.heap.size w' a' c' prs ∧ Below V.heap.size V w' from fun V hV => by
    have := cloneP_calls V pa pc prs (hpa.later hV) (by omega)
    rw [hpl] at this
    exact this)
  have k1 := box_cell XB 1 (.slice ra rs.length rc) rfl
  have s3 : w.heap.size + 2 ≤ ((w.alloc (.cells #[.int .i64 ver, .slice ra rs.length rc, .slice pa ps.length pc] 28)).alloc (.cells #[.int .i64 0, .slice none 0 0, .slice none 0 0] 28)).heap.size := by have := (Array.getElem?_eq_some_iff.1 X2).1; omega
  have RTS := hide rts
  have HPR := hide hpr
  have HT := hide ht
  have RC := hide (cloneR_calls _ ra rc rs (rts.later B2) hr)
  clear X1 b1 b2 s2 pos rts hpr ht hpa
  go_enter Tryz.func16, Tryz.ntmps16
  go_wp2_with fail
  go_at_call 27
  refine (unhide RC).mono ?_
  rintro e V1 ⟨ra', rc', rfl, r1, r2, r3, r4, v1⟩
  have YB := later_block v1 XB
  have YC := later_block v1 X2
  have F1 := B2.trans (v1.mono B2.size)
  have t1 := Nat.le_trans s3 v1.size
  have r5 : ∀ g o s, ra' = some ⟨g, o, s⟩ → w.heap.size + 2 ≤ g := fun g o s e => Nat.le_trans s3 (r4 g o s e)
  clear r4 v1 RC k1 XB X2 B2 s3
  have z1 := box_cell YB 1 (.slice ra rs.length rc) rfl
  have z2 := box_cell YB 2 (.slice pa ps.length pc) rfl
  have f1 := froz_of YB 1
  have F2 := F1.setCell (p := ⟨w.heap.size, 1, none⟩) (by simp) (.slice ra' rs.length rc')
  have YB2 := heap_setCell_same V1 w.heap.size 1 _ _ (.slice ra' rs.length rc') YB
  have YC2 := (heap_setCell_other V1 ⟨w.heap.size, 1, none⟩ (w.heap.size + 1) (.slice ra' rs.length rc') (by simp)).trans YC
  have t2 : w.heap.size + 2 ≤ (V1.setCell ⟨w.heap.size, 1, none⟩ (.slice ra' rs.length rc')).heap.size := by have := (Array.getElem?_eq_some_iff.1 YC2).1; omega
  have R2 := r1.keep r5 (w' := V1.setCell ⟨w.heap.size, 1, none⟩ (.slice ra' rs.length rc')) (fun g h1 _ => heap_setCell_other V1 ⟨w.heap.size, 1, none⟩ g _ (by simp; omega))
  have HF2 := hide F2
  have HYB := hide YB2
  have HYC := hide YC2
  have HR := hide R2
  have HT2 := hide t2
  have HR5 := hide r5
  clear F1 YB YC t1 r1 F2 YB2 YC2 R2 t2 r5
  go_wp2_with fail
  go_at_call 28
  refine (unhide PC _ (unhide HF2)).mono ?_
  rintro e V2 ⟨pa', pc', rfl, op, v2⟩
  have YB := later_block v2 (unhide HYB)
  have YC := later_block v2 (unhide HYC)
  have F1 := (unhide HF2).trans (v2.mono (unhide HF2).size)
  have y2 := box_cell YB 2 (.slice pa ps.length pc) rfl
  have f2 := froz_of YB 2
  have t2 := unhide HT2
  have hne : ∀ g, w.heap.size + 2 ≤ g → (V2.setCell ⟨w.heap.size, 2, none⟩ (.slice pa' ps.length pc')).heap[g]? = V2.heap[g]? := fun g hg => heap_setCell_other V2 ⟨w.heap.size, 2, none⟩ g _ (by simp; omega)
  have IV : ClInv w ver rs ps ra' rc' pa' pc' (V2.setCell ⟨w.heap.size, 2, none⟩ (.slice pa' ps.length pc')) 0 := by
    refine ⟨F1.setCell (p := ⟨w.heap.size, 2, none⟩) (by simp) _, heap_setCell_same V2 w.heap.size 2 _ _ (.slice pa' ps.length pc') YB, (heap_setCell_other V2 ⟨w.heap.size, 2, none⟩ (w.heap.size + 1) _ (by simp)).trans YC, ((unhide HR).later v2).keep (unhide HR5) (fun g h1 _ => hne g h1), ?_, ?_⟩
    · intro h0 g o s e e2
      obtain ⟨b, off, e3, c0, _⟩ := (unhide HR).cell 0 (by omega)
      have hbl := World.block_lt_of_cell? _ _ c0
      rw [e3] at e
      cases e
      rcases op.2 with ⟨hv, _⟩ | ⟨g', cap, cur, hv, hbg, r⟩
      · simp only [Value.slice.injEq] at hv
        obtain ⟨rfl, _⟩ := hv
        cases e2
      · simp only [Value.slice.injEq] at hv
        obtain ⟨rfl, _⟩ := hv
        cases e2
        dsimp only at hbl
        omega
    rcases op.2 with ⟨hv, h0⟩ | ⟨g', cap, cur, hv, r⟩
    · exact .inl (by omega)
    · have hv' := hv
      simp only [Value.slice.injEq] at hv'
      obtain ⟨rfl, _, rfl⟩ := hv'
      exact .inr ⟨g', rfl, ((op.pools hpl (unhide HPR)).1.low t2).later (fun g h1 _ => hne g h1)⟩
  have hcap : ps.length ≤ pc' ∧ (pa' = none → pc' = 0) := by
    rcases op.2 with ⟨hv, h0⟩ | ⟨g', cap, cur, hv, hb, hg, hle, r⟩
    · simp only [Value.slice.injEq] at hv
      exact ⟨by omega, fun _ => hv.2.2⟩
    · simp only [Value.slice.injEq] at hv
      obtain ⟨rfl, _, rfl⟩ := hv
      exact ⟨by omega, fun e => by cases e⟩
  have I0 := hide IV
  have c2 := box_cell IV.hB 2 (.slice pa' ps.length pc') rfl
  have HCP := hide hcap
  clear IV hne t2 F1 YB YC op v2 z1 z2 f1 hcap
  have hj64 : ps.length ≤ 1000 := hp
  go_wp2_with fail
  go_loopw [15] (fun i wr => ∃ j : Nat, j ≤ ps.length ∧ i = .int .i64 (j : Int) ∧ Hid (ClInv w ver rs ps ra' rc' pa' pc' wr j)) (fun i _ => ps.length - (intOf i).toNat)
  case atStart => exact ⟨0, by omega, rfl, hide (unhide I0)⟩
  case round =>
    obtain ⟨j, hj, rfl, I⟩ := hrel
    by_cases hjn : j < ps.length
    · obtain ⟨G, rfl, pr⟩ : ∃ G, pa' = some ⟨G, 0, none⟩ ∧ PoolRow (w.heap.size + 2) G w wr ps j := by
        rcases (unhide I).po with h0 | h
        · omega
        · exact h
      obtain ⟨hG, cur, h1, h2⟩ := id pr
      obtain ⟨n1, ta, tc, n2, _, n4⟩ := h2 j hjn
      obtain ⟨tg, tz⟩ := n4 (Nat.le_refl _)
      have hle := unhide HT _ (List.getElem_mem hjn)
      have cB := box_cell (unhide I).hB 2 (.slice (some ⟨G, 0, none⟩) ps.length pc') rfl
      have cg := box_cell h1 (j * 2 + 1) _ n2
      have cg' : wr.drew.cell? ⟨G, j * 2 + 1, none⟩ = some (.slice ta ps[j].ts.length tc) := cg
      have hGl := (Array.getElem?_eq_some_iff.1 h1).1
      have TC := hide (show ∀ V, Below w.heap.size w V → Calls Tryz.prog 29 #[.slice ta ps[j].ts.length tc] V fun e w' => ∃ a' c', e = .returned (.slice a' ps[j].ts.length c') ∧ OwnT V.heap.size w' a' c' ps[j].ts ∧ Below V.heap.size V w' from fun V hV => cloneT_calls V ta tc ps[j].ts (tg.later hV) hle)
      have PR := hide pr
      have hj0 : (0 : Int) ≤ (j : Int) := by omega
      have hj1 : (j : Int) < (ps.length : Int) := by omega
      clear n1 n2 n4 tg tz hle h1 h2 pr
      go_wp2_with fail
      have W := hide (show Below wr.heap.size wr wr.drew from (Below.refl _ _).drew)
      refine wp_region_held_drew (S := fun w' => w'.cell? ⟨w.heap.size, 2, none⟩ = some (.slice (some ⟨G, 0, none⟩) ps.length pc')) (by kernel_rfl) ?_ (fun hHeld => ?_)
      · try dsimp only
        first | exact cB | exact cB2 | exact cB3
      refine held_take 0 (oi := { dst := some 18, op := Op.fieldAddr 28 (Operand.tmp 1) 2, type := 0, pos := "plane.go:50", after := #[], guard := none }) (v := ?_) (by kernel_rfl) rfl (by rfl) (by kernel_rfl) (by kernel_rfl) (fun _ _ _ h => h) ?_ (by assumption) ?_
      rotate_left
      · (intro w hSw; (try dsimp only at hSw); go_simp; try with_reducible rfl)
      try simp only [Act.put, List.setIfInBounds_toArray, List.set_cons_zero, List.set_cons_succ]
      refine held_take 1 (oi := { dst := some 19, op := Op.load 26 (Operand.tmp 18), type := 26, pos := "plane.go:50", after := #[{ on := 0, ground := Ground.data }], guard := none }) (v := ?_) (by kernel_rfl) rfl (by rfl) (by kernel_rfl) (by kernel_rfl) (fun _ _ _ h => h) ?_ (by assumption) ?_
      rotate_left
      · (intro w hSw; (try dsimp only at hSw); go_simp; try with_reducible rfl)
      try simp only [Act.put, List.setIfInBounds_toArray, List.set_cons_zero, List.set_cons_succ]
      refine held_take 2 (oi := { dst := some 20, op := Op.move (Operand.tmp 3), type := 3, pos := "plane.go:50", after := #[], guard := none }) (v := ?_) (by kernel_rfl) rfl (by rfl) (by kernel_rfl) (by kernel_rfl) (fun _ _ _ h => h) ?_ (by assumption) ?_
      rotate_left
      · (intro w hSw; (try dsimp only at hSw); go_simp; try with_reducible rfl)
      try simp only [Act.put, List.setIfInBounds_toArray, List.set_cons_zero, List.set_cons_succ]
      refine held_take 3 (oi := { dst := some 21, op := Op.fieldAddr 28 (Operand.tmp 1) 2, type := 0, pos := "plane.go:50", after := #[], guard := none }) (v := ?_) (by kernel_rfl) rfl (by rfl) (by kernel_rfl) (by kernel_rfl) (fun _ _ _ h => h) ?_ (by assumption) ?_
      rotate_left
      · (intro w hSw; (try dsimp only at hSw); go_simp; try with_reducible rfl)
      try simp only [Act.put, List.setIfInBounds_toArray, List.set_cons_zero, List.set_cons_succ]
      refine held_take 4 (oi := { dst := some 22, op := Op.load 26 (Operand.tmp 21), type := 26, pos := "plane.go:50", after := #[{ on := 3, ground := Ground.data }], guard := none }) (v := ?_) (by kernel_rfl) rfl (by rfl) (by kernel_rfl) (by kernel_rfl) (fun _ _ _ h => h) ?_ (by assumption) ?_
      rotate_left
      · (intro w hSw; (try dsimp only at hSw); go_simp; try with_reducible rfl)
      try simp only [Act.put, List.setIfInBounds_toArray, List.set_cons_zero, List.set_cons_succ]
      refine held_take 5 (oi := { dst := some 23, op := Op.move (Operand.tmp 3), type := 3, pos := "plane.go:50", after := #[], guard := none }) (v := ?_) (by kernel_rfl) rfl (by rfl) (by kernel_rfl) (by kernel_rfl) (fun _ _ _ h => h) ?_ (by assumption) ?_
      rotate_left
      · (intro w hSw; (try dsimp only at hSw); go_simp; try with_reducible rfl)
      try simp only [Act.put, List.setIfInBounds_toArray, List.set_cons_zero, List.set_cons_succ]
      refine held_take 6 (oi := { dst := some 24, op := Op.indexAddr 26 (Operand.tmp 22) (Operand.tmp 23), type := 0, pos := "plane.go:50", after := #[{ on := 4, ground := Ground.data }, { on := 5, ground := Ground.data }], guard := none }) (v := ?_) (by kernel_rfl) rfl (by rfl) (by kernel_rfl) (by kernel_rfl) (fun _ _ _ h => h) ?_ (by assumption) ?_
      rotate_left
      · (intro w hSw; (try dsimp only at hSw); go_simp; try with_reducible rfl)
      try simp only [Act.put, List.setIfInBounds_toArray, List.set_cons_zero, List.set_cons_succ]
      refine held_take 7 (oi := { dst := some 25, op := Op.fieldAddr 39 (Operand.tmp 24) 1, type := 0, pos := "plane.go:50", after := #[{ on := 6, ground := Ground.data }], guard := none }) (v := ?_) (by kernel_rfl) rfl (by rfl) (by kernel_rfl) (by kernel_rfl) (fun _ _ _ h => h) ?_ (by assumption) ?_
      rotate_left
      · (intro w hSw; (try dsimp only at hSw); go_simp; try with_reducible rfl)
      try simp only [Act.put, List.setIfInBounds_toArray, List.set_cons_zero, List.set_cons_succ]
      refine wpAnyH_ready (rs := [8]) (by kernel_rfl) (by simp) ?_
      refine AllReadyH.cons (o := { dst := some 26, op := Op.load 37 (Operand.tmp 25), type := 37, pos := "plane.go:50", after := #[{ on := 7, ground := Ground.data }], guard := none }) rfl (fun K hK => ?_) ?_
      · go_simp
        refine hK.out _ _ ?_ (fun hHeld => ?_)
        · try dsimp only
          first | exact cB | exact cB2 | exact cB3
        clear hK K
        try simp only [Act.put, List.setIfInBounds_toArray, List.set_cons_zero, List.set_cons_succ]
        refine wpAnyH_ready (rs := [9]) (by kernel_rfl) (by simp) ?_
        refine AllReadyH.cons (o := { dst := some 27, op := Op.call { callee := Callee.value (Operand.func 29), args := #[Operand.tmp 26], argTypes := #[37] }, type := 37, pos := "plane.go:50", after := #[{ on := 8, ground := Ground.data }], guard := none }) rfl (fun K hK => ?_) ?_
        · go_simp
          go_at_call 29
          refine (unhide TC _ ((unhide I).bw.trans ((unhide W).mono (unhide I).bw.size))).mono ?_
          rintro e V3 ⟨ta', tc', rfl, ot, v3⟩
          have v4 := (unhide W).trans (v3.mono (unhide W).size)
          have I2 := hide (show ClInv w ver rs ps ra' rc' (some ⟨G, 0, none⟩) pc' V3 j from ⟨(unhide I).bw.trans (v4.mono (unhide I).bw.size), later_block v4 (unhide I).hB, later_block v4 (unhide I).hC, (unhide I).rt.later v4, (unhide I).sep, .inr ⟨G, rfl, (unhide PR).later (fun g _ h2 => v4.block g h2)⟩⟩)
          have OT := hide (show OwnT (w.heap.size + 2) V3 ta' tc' ps[j].ts from ot.low (by have := v4.size; have := (Array.getElem?_eq_some_iff.1 (unhide I).hC).1; have := (unhide W).size; omega))
          have NG := hide (show ta'.map (·.block) ≠ some G from fun e => by have := (ot.lt G e).1; have := (unhide W).size; omega)
          have cB2 := box_cell (unhide I2).hB 2 (.slice (some ⟨G, 0, none⟩) ps.length pc') rfl
          have zg := cell_later v4 cg
          have fg : V3.frozen? ⟨G, j * 2 + 1, none⟩ = false := by
            obtain ⟨_, cur3, h3, _⟩ := (unhide PR).later (wr' := V3) (fun g _ h2 => v4.block g h2)
            exact froz_of h3 _
          clear ot v3 v4
          go_wp2_with fail
          refine hK.out _ _ ?_ (fun hHeld => ?_)
          · try dsimp only
            first | exact cB | exact cB2 | exact cB3
          clear hK K
          try simp only [Act.put, List.setIfInBounds_toArray, List.set_cons_zero, List.set_cons_succ]
          refine held_take 10 (oi := { dst := some 28, op := Op.indexAddr 26 (Operand.tmp 19) (Operand.tmp 20), type := 0, pos := "plane.go:50", after := #[{ on := 1, ground := Ground.data }, { on := 2, ground := Ground.data }, { on := 0, ground := Ground.phase }, { on := 1, ground := Ground.phase }, { on := 2, ground := Ground.phase }, { on := 3, ground := Ground.phase }, { on := 4, ground := Ground.phase }, { on := 5, ground := Ground.phase }, { on := 6, ground := Ground.phase }, { on := 7, ground := Ground.phase }, { on := 8, ground := Ground.phase }, { on := 9, ground := Ground.phase }], guard := none }) (v := ?_) (by kernel_rfl) rfl (by rfl) (by kernel_rfl) (by kernel_rfl) (fun _ _ _ h => h) ?_ (by assumption) ?_
          rotate_left
          · (intro w hSw; (try dsimp only at hSw); go_simp; try with_reducible rfl)
          try simp only [Act.put, List.setIfInBounds_toArray, List.set_cons_zero, List.set_cons_succ]
          refine held_take 11 (oi := { dst := some 29, op := Op.fieldAddr 39 (Operand.tmp 28) 1, type := 0, pos := "plane.go:50", after := #[{ on := 10, ground := Ground.data }, { on := 0, ground := Ground.phase }, { on := 1, ground := Ground.phase }, { on := 2, ground := Ground.phase }, { on := 3, ground := Ground.phase }, { on := 4, ground := Ground.phase }, { on := 5, ground := Ground.phase }, { on := 6, ground := Ground.phase }, { on := 7, ground := Ground.phase }, { on := 8, ground := Ground.phase }, { on := 9, ground := Ground.phase }], guard := none }) (v := ?_) (by kernel_rfl) rfl (by rfl) (by kernel_rfl) (by kernel_rfl) (fun _ _ _ h => h) ?_ (by assumption) ?_
          rotate_left
          · (intro w hSw; (try dsimp only at hSw); go_simp; try with_reducible rfl)
          try simp only [Act.put, List.setIfInBounds_toArray, List.set_cons_zero, List.set_cons_succ]
          refine wpAnyH_ready (rs := [12]) (by kernel_rfl) (by simp) ?_
          refine AllReadyH.cons (o := { dst := none, op := Op.store 37 (Operand.tmp 29) (Operand.tmp 27), type := 0, pos := "plane.go:50", after := #[{ on := 11, ground := Ground.data }, { on := 9, ground := Ground.data }, { on := 9, ground := Ground.chain }, { on := 0, ground := Ground.phase }, { on := 1, ground := Ground.phase }, { on := 2, ground := Ground.phase }, { on := 3, ground := Ground.phase }, { on := 4, ground := Ground.phase }, { on := 5, ground := Ground.phase }, { on := 6, ground := Ground.phase }, { on := 7, ground := Ground.phase }, { on := 8, ground := Ground.phase }, { on := 9, ground := Ground.phase }], guard := none }) rfl (fun K hK => ?_) ?_
          · go_simp
            have I3 := hide (show ClInv w ver rs ps ra' rc' (some ⟨G, 0, none⟩) pc' (V3.setCell ⟨G, j * 2 + 1, none⟩ (.slice ta' ps[j].ts.length tc')) (j + 1) from by
              have oth : ∀ g, g ≠ G → (V3.setCell ⟨G, j * 2 + 1, none⟩ (.slice ta' ps[j].ts.length tc')).heap[g]? = V3.heap[g]? := fun g hg => heap_setCell_other V3 ⟨G, j * 2 + 1, none⟩ g _ hg
              refine ⟨(unhide I2).bw.setCell (p := ⟨G, j * 2 + 1, none⟩) (by dsimp only; omega) _, (oth _ (by omega)).trans (unhide I2).hB, (oth _ (by omega)).trans (unhide I2).hC, (unhide I2).rt.aside (fun h0 g o s e e2 => (unhide I2).sep h0 g o s e (by rw [e2]; rfl)), (unhide I2).sep, .inr ⟨G, rfl, ?_⟩⟩
              · rcases (unhide I2).po with h0 | ⟨G', e, h⟩
                · omega
                · cases e
                  exact h.step hjn ta' tc' (unhide OT) (unhide NG))
            have cB3 := box_cell (unhide I3).hB 2 (.slice (some ⟨G, 0, none⟩) ps.length pc') rfl
            refine hK.out _ _ ?_ (fun hHeld => ?_)
            · try dsimp only
              first | exact cB | exact cB2 | exact cB3
            clear hK K
            try simp only [Act.put, List.setIfInBounds_toArray, List.set_cons_zero, List.set_cons_succ]
            refine wpAnyH_done (by kernel_rfl) ?_ _
            go_wp2_with fail
            exact ⟨⟨j + 1, by omega, by go_num, unhide I3⟩, by simp [intOf]; omega⟩
          exact AllReadyH.nil
        exact AllReadyH.nil
      exact AllReadyH.nil
    · have d0 := box_cell (unhide I).hB 0 (.int .i64 ver) rfl
      have d1 := box_cell (unhide I).hB 1 (.slice ra' rs.length rc') rfl
      have d2 := box_cell (unhide I).hB 2 (.slice pa' ps.length pc') rfl
      have e0 := box_cell (unhide I).hC 0 (.int .i64 0) rfl
      have e1 := box_cell (unhide I).hC 1 (.slice none 0 0) rfl
      have e2 := box_cell (unhide I).hC 2 (.slice none 0 0) rfl
      have f0 := froz_of (unhide I).hC 0
      have f1 := froz_of (unhide I).hC 1
      have f2 := froz_of (unhide I).hC 2
      go_wp2_with fail
      clear d0 d1 d2 e0 e1 e2 f0 f1 f2
      have Z := heap_setCell_same _ (w.heap.size + 1) 2 _ _ (.slice pa' ps.length pc') (heap_setCell_same _ (w.heap.size + 1) 1 _ _ (.slice ra' rs.length rc') (heap_setCell_same wr (w.heap.size + 1) 0 _ _ (.int .i64 ver) (unhide I).hC))
      have k0 := box_cell Z 0 (.int .i64 ver) rfl
      have k1 := box_cell Z 1 (.slice ra' rs.length rc') rfl
      have k2 := box_cell Z 2 (.slice pa' ps.length pc') rfl
      have VB := (((unhide I).bw.setCell (p := ⟨w.heap.size + 1, 0, none⟩) (by simp) (.int .i64 ver)).setCell (p := ⟨w.heap.size + 1, 1, none⟩) (by simp) (.slice ra' rs.length rc')).setCell (p := ⟨w.heap.size + 1, 2, none⟩) (by simp) (.slice pa' ps.length pc')
      have VS : wr.heap.size ≤ (((wr.setCell ⟨w.heap.size + 1, 0, none⟩ (.int .i64 ver)).setCell ⟨w.heap.size + 1, 1, none⟩ (.slice ra' rs.length rc')).setCell ⟨w.heap.size + 1, 2, none⟩ (.slice pa' ps.length pc')).heap.size := by simp [World.setCell]
      have VO : ∀ g, w.heap.size + 2 ≤ g → (((wr.setCell ⟨w.heap.size + 1, 0, none⟩ (.int .i64 ver)).setCell ⟨w.heap.size + 1, 1, none⟩ (.slice ra' rs.length rc')).setCell ⟨w.heap.size + 1, 2, none⟩ (.slice pa' ps.length pc')).heap[g]? = wr.heap[g]? := fun g hg => (heap_setCell_other _ ⟨w.heap.size + 1, 2, none⟩ g _ (by simp; omega)).trans ((heap_setCell_other _ ⟨w.heap.size + 1, 1, none⟩ g _ (by simp; omega)).trans (heap_setCell_other wr ⟨w.heap.size + 1, 0, none⟩ g _ (by simp; omega)))
      generalize ((wr.setCell ⟨w.heap.size + 1, 0, none⟩ (.int .i64 ver)).setCell ⟨w.heap.size + 1, 1, none⟩ (.slice ra' rs.length rc')).setCell ⟨w.heap.size + 1, 2, none⟩ (.slice pa' ps.length pc') = VV at *
      have hjj : j = ps.length := by omega
      subst hjj
      refine bodyPost_ret (v := .agg #[.int .i64 ver, .slice ra' rs.length rc', .slice pa' ps.length pc']) (by simp [results, Tryz.results16, go_sem, k0, k1, k2]) rfl ⟨⟨ra', rc', pa', pc'⟩, rfl, (unhide I).stay (unhide HR5) ?_ VO VS wv ⟨rl, r2⟩ ⟨pl, (unhide HCP).1⟩ r3, VB⟩
      intro y hy
      obtain ⟨q, hq, rfl⟩ := List.getElem_of_mem hy
      exact ⟨((unhide HPR) q hq (by omega)).2.2.1.lt, by have := unhide HT _ hy; simp only [maxLen]; omega⟩
end Go.Proofs.YtcmiappiocfbiaaGreatDoor
end
/- Plane: New, Apply, Version. -/
section
namespace Go.Proofs.YtcmiappiocfbiaaGreatDoor
open Go.ChangeShapes Go.WideShapes Go.ChangeAt Go.RowKit
set_option linter.unusedVariables false

theorem Stay.low {base base' : Nat} {w : World} {e : Cf} {h : CfH} (s : Stay base w e h) (hb : base' ≤ base) : Stay base' w e h := fun v hv => s v (fun g h1 h2 => hv g (by omega) h2)
/-- A plane, and its configuration in blocks of its own from base on. -/
structure PlOwn (base : Nat) (w : World) (P : Nat) (e : Cf) (h : CfH) : Prop where
  row : w.heap[P]? = some (.cells #[.int .i64 e.ver, .slice h.ra e.rs.length h.rc, .slice h.pa e.ps.length h.pc] 54 (0, 0))
  st : Stay base w e h
theorem PlOwn.at_ {base : Nat} {w : World} {P : Nat} {e : Cf} {h : CfH} (x : PlOwn base w P e h) : PlAt w P e h := ⟨x.row, x.st.now⟩
theorem PlOwn.keep {base : Nat} {w w' : World} {P : Nat} {e : Cf} {h : CfH} (x : PlOwn base w P e h) (hP : w'.heap[P]? = w.heap[P]?) (hb : ∀ g, base ≤ g → g < w.heap.size → w'.heap[g]? = w.heap[g]?) (hs : w.heap.size ≤ w'.heap.size) : PlOwn base w' P e h :=
  ⟨hP.trans x.row, x.st.later hb hs⟩
theorem PlOwn.later {base : Nat} {w w' : World} {P : Nat} {e : Cf} {h : CfH} (x : PlOwn base w P e h) (hb : Below w.heap.size w w') : PlOwn base w' P e h := x.keep (hb.block P (Array.getElem?_eq_some_iff.1 x.row).1) (fun g _ h2 => hb.block g h2) hb.size
/-- What is done to another plane leaves this one as it was. -/
theorem PlOwn.other {base : Nat} {w w' : World} {P Q : Nat} {e : Cf} {h : CfH} (x : PlOwn base w P e h) (hg : w.grownBy w' (some Q)) (hne : P ≠ Q) (hQ : Q < base) : PlOwn base w' P e h :=
  x.keep (hg.block P (Array.getElem?_eq_some_iff.1 x.row).1 (fun e => hne (Option.some.inj e))) (fun g h1 h2 => hg.block g h2 (fun e => by have := Option.some.inj e; omega)) hg.size
set_option maxRecDepth 20000 in
set_option maxHeartbeats 4000000 in
theorem new_calls (w : World) : Calls Tryz.prog 6 #[] w fun e w' => e = .returned (.pointer (some ⟨w.heap.size, 0, none⟩)) ∧ (∀ base, PlOwn base w' w.heap.size ⟨0, [], []⟩ ⟨none, 0, none, 0⟩) ∧ Below w.heap.size w w' := by
  have b1 := hide (show Below w.heap.size w (w.alloc (.cells #[.int .i64 0, .slice none 0 0, .slice none 0 0] 54)) from (Below.refl _ _).alloc (Nat.le_refl _) _)
  have X := hide (show ∀ base, PlOwn base (w.alloc (.cells #[.int .i64 0, .slice none 0 0, .slice none 0 0] 54)) w.heap.size ⟨0, [], []⟩ ⟨none, 0, none, 0⟩ from fun base => ⟨heap_new w _, fun v _ => confN v⟩)
  go_enter Tryz.func6, Tryz.ntmps6
  go_wp2
  go_ret
  exact ⟨rfl, unhide X, unhide b1⟩
set_option maxRecDepth 20000 in
set_option maxHeartbeats 4000000 in
theorem version_calls {w : World} {P : Nat} {e : Cf} {h : CfH} (hp : PlAt w P e h) : Calls Tryz.prog 12 #[.pointer (some ⟨P, 0, none⟩)] w fun r w' => r = .returned (.int .i64 e.ver) ∧ Below w.heap.size w w' := by
  have c0 := box_cell hp.row 0 _ rfl
  have b1 := hide (Below.refl w.heap.size w)
  clear hp
  obtain ⟨ver, rs, ps⟩ := e
  dsimp only at *
  go_enter Tryz.func12, Tryz.ntmps12
  go_wp2
  go_ret
  exact ⟨rfl, unhide b1⟩
/-- How Apply ends. -/
def ApEnd (base : Nat) (w : World) (P : Nat) (e : Cf) (h : CfH) (c : Cf) (r : Ending) (w' : World) : Prop :=
  ((c.ver ≤ e.ver ∧ r = .returned (.int .i64 12) ∧ PlOwn base w' P e h) ∨ (e.ver < c.ver ∧ r = .returned (.int .i64 0) ∧ ∃ h', PlOwn w.heap.size w' P c h')) ∧ w.grownBy w' (some P)
set_option maxRecDepth 20000 in
set_option maxHeartbeats 8000000 in
theorem apply_calls {base : Nat} {w : World} {P : Nat} {e : Cf} {h : CfH} (hp : PlOwn base w P e h) {c : Cf} {k : CfH} (hc : CfAt w c k) (hr : c.rs.length ≤ 1000) (hps : c.ps.length ≤ 1000) (ht : ∀ y ∈ c.ps, y.ts.length ≤ 1000) :
    Calls Tryz.prog 9 #[.pointer (some ⟨P, 0, none⟩), cfVal c k] w fun r w' => ApEnd base w P e h c r w' := by
  have b1 : Below w.heap.size w (w.alloc (.cells #[.int .i64 c.ver, .slice k.ra c.rs.length k.rc, .slice k.pa c.ps.length k.pc] 28)) := (Below.refl _ _).alloc (Nat.le_refl _) _
  have hP := (Array.getElem?_eq_some_iff.1 hp.row).1
  have p1 := hp.later b1
  have c0 := box_cell p1.row 0 (.int .i64 e.ver) rfl
  have X1 := heap_new w (.cells #[.int .i64 c.ver, .slice k.ra c.rs.length k.rc, .slice k.pa c.ps.length k.pc] 28)
  have x0 := box_cell X1 0 (.int .i64 c.ver) rfl
  have x1 := box_cell X1 1 (.slice k.ra c.rs.length k.rc) rfl
  have x2 := box_cell X1 2 (.slice k.pa c.ps.length k.pc) rfl
  have g1 : w.grownBy (w.alloc (.cells #[.int .i64 c.ver, .slice k.ra c.rs.length k.rc, .slice k.pa c.ps.length k.pc] 28)) (some P) := ⟨b1.os, b1.tape, b1.output, b1.size, fun g hg _ => b1.block g hg⟩
  have wc := hc.wv
  have we := hp.st.now.wv
  by_cases hv : c.ver ≤ e.ver
  · have FE := hide (show ∀ n, ApEnd base w P e h c (.returned (.int .i64 12)) ((w.alloc (.cells #[.int .i64 c.ver, .slice k.ra c.rs.length k.rc, .slice k.pa c.ps.length k.pc] 28)).drewN n) from fun n => ⟨.inl ⟨hv, rfl, p1.keep rfl (fun _ _ _ => rfl) (Nat.le_refl _)⟩, ⟨g1.os, g1.tape, g1.output, g1.size, g1.block⟩⟩)
    unfold cfVal
    clear g1 p1 X1 hc hp ht hr hps
    generalize e.ver = ev at *
    generalize c.ver = cv at *
    go_enter Tryz.func9, Tryz.ntmps9
    go_wp2_with fail
    go_quiet (fail)
    go_wp2
    first | exact unhide FE _ | (go_ret; exact unhide FE _)
  · have CC := hide (fun n => clone_calls ((hc.later b1).later (show Below (w.alloc (.cells #[.int .i64 c.ver, .slice k.ra c.rs.length k.rc, .slice k.pa c.ps.length k.pc] 28)).heap.size (w.alloc (.cells #[.int .i64 c.ver, .slice k.ra c.rs.length k.rc, .slice k.pa c.ps.length k.pc] 28)) ((w.alloc (.cells #[.int .i64 c.ver, .slice k.ra c.rs.length k.rc, .slice k.pa c.ps.length k.pc] 28)).drewN n) from ⟨rfl, rfl, rfl, Nat.le_refl _, fun _ _ => rfl⟩)) hr hps ht)
    have FE := hide (show ∀ V h', Stay (w.alloc (.cells #[.int .i64 c.ver, .slice k.ra c.rs.length k.rc, .slice k.pa c.ps.length k.pc] 28)).heap.size V c h' → Below (w.alloc (.cells #[.int .i64 c.ver, .slice k.ra c.rs.length k.rc, .slice k.pa c.ps.length k.pc] 28)).heap.size (w.alloc (.cells #[.int .i64 c.ver, .slice k.ra c.rs.length k.rc, .slice k.pa c.ps.length k.pc] 28)) V → ApEnd base w P e h c (.returned (.int .i64 0)) (((V.setCell ⟨P, 0, none⟩ (.int .i64 c.ver)).setCell ⟨P, 1, none⟩ (.slice h'.ra c.rs.length h'.rc)).setCell ⟨P, 2, none⟩ (.slice h'.pa c.ps.length h'.pc)) from fun V h' sv bv => by
      have row := later_block bv p1.row
      have Z := heap_setCell_same _ P 2 _ _ (.slice h'.pa c.ps.length h'.pc) (heap_setCell_same _ P 1 _ _ (.slice h'.ra c.rs.length h'.rc) (heap_setCell_same V P 0 _ _ (.int .i64 c.ver) row))
      have oth : ∀ g, g ≠ P → (((V.setCell ⟨P, 0, none⟩ (.int .i64 c.ver)).setCell ⟨P, 1, none⟩ (.slice h'.ra c.rs.length h'.rc)).setCell ⟨P, 2, none⟩ (.slice h'.pa c.ps.length h'.pc)).heap[g]? = V.heap[g]? := fun g hg => (heap_setCell_other _ ⟨P, 2, none⟩ g _ hg).trans ((heap_setCell_other _ ⟨P, 1, none⟩ g _ hg).trans (heap_setCell_other V ⟨P, 0, none⟩ g _ hg))
      have sz : (((V.setCell ⟨P, 0, none⟩ (.int .i64 c.ver)).setCell ⟨P, 1, none⟩ (.slice h'.ra c.rs.length h'.rc)).setCell ⟨P, 2, none⟩ (.slice h'.pa c.ps.length h'.pc)).heap.size = V.heap.size := by simp [World.setCell]
      refine ⟨.inr ⟨by omega, rfl, h', Z, (sv.low (by have := b1.size; omega)).later (fun g h1 _ => oth g (by omega)) (by omega)⟩, ?_⟩
      exact ⟨bv.os.trans b1.os, bv.tape.trans b1.tape, bv.output.trans b1.output, by have := b1.size; have := bv.size; omega, fun g hg hne => (oth g (fun e => hne (by rw [e]))).trans ((bv.block g (Nat.lt_of_lt_of_le hg b1.size)).trans (b1.block g hg))⟩)
    have RW := hide p1.row
    unfold cfVal at CC ⊢
    clear g1 p1 X1 hc hp ht hr hps
    generalize e.ver = ev at *
    generalize c.ver = cv at *
    go_enter Tryz.func9, Tryz.ntmps9
    go_wp2_with fail
    go_quiet (fail)
    go_wp2_with fail
    go_at_call 16
    refine (unhide CC _).mono ?_
    rintro r V ⟨h', rfl, sv, bv'⟩
    have bv := (show Below _ (w.alloc (.cells #[.int .i64 cv, .slice k.ra c.rs.length k.rc, .slice k.pa c.ps.length k.pc] 28)) V from ⟨bv'.os, bv'.tape, bv'.output, bv'.size, bv'.block⟩)
    clear bv'
    have rw' := later_block bv (unhide RW)
    have y0 := box_cell rw' 0 (.int .i64 ev) rfl
    have y1 := box_cell rw' 1 _ rfl
    have y2 := box_cell rw' 2 _ rfl
    have f0 := froz_of rw' 0
    have f1 := froz_of rw' 1
    have f2 := froz_of rw' 2
    have E := hide (unhide FE V h' sv bv)
    clear sv bv rw'
    go_wp2
    first | exact unhide E | (go_ret; exact unhide E)
end Go.Proofs.YtcmiappiocfbiaaGreatDoor
end
/- Plane: Config. -/
section
namespace Go.Proofs.YtcmiappiocfbiaaGreatDoor
open Go.ChangeShapes Go.WideShapes Go.ChangeAt Go.RowKit
set_option linter.unusedVariables false

set_option maxRecDepth 20000 in
set_option maxHeartbeats 8000000 in
theorem config_calls {w : World} {P : Nat} {e : Cf} {h : CfH} (hp : PlAt w P e h) (hr : e.rs.length ≤ 1000) (hps : e.ps.length ≤ 1000) (ht : ∀ y ∈ e.ps, y.ts.length ≤ 1000) :
    Calls Tryz.prog 14 #[.pointer (some ⟨P, 0, none⟩)] w fun r w' => ∃ h', r = .returned (cfVal e h') ∧ CfAt w' e h' ∧ Below w.heap.size w w' := by
  have b1 : Below w.heap.size w (w.alloc (.cells #[.int .i64 0, .slice none 0 0, .slice none 0 0] 28)) := (Below.refl _ _).alloc (Nat.le_refl _) _
  have X1 := heap_new w (.cells #[.int .i64 0, .slice none 0 0, .slice none 0 0] 28)
  have p1 := hp.later b1
  have c0 := box_cell p1.row 0 _ rfl
  have c1 := box_cell p1.row 1 _ rfl
  have c2 := box_cell p1.row 2 _ rfl
  have CC := hide (clone_calls p1.cf hr hps ht)
  have s1 : w.heap.size < (w.alloc (.cells #[.int .i64 0, .slice none 0 0, .slice none 0 0] 28)).heap.size := (Array.getElem?_eq_some_iff.1 X1).1
  unfold cfVal at *
  clear hp p1 hr hps ht
  go_enter Tryz.func14, Tryz.ntmps14
  go_wp2_with fail
  go_at_call 16
  refine (unhide CC).mono ?_
  rintro r V ⟨h', rfl, sv, bv⟩
  have row := later_block bv X1
  have y0 := box_cell row 0 _ rfl
  have y1 := box_cell row 1 _ rfl
  have y2 := box_cell row 2 _ rfl
  have f0 := froz_of row 0
  have f1 := froz_of row 1
  have f2 := froz_of row 2
  have VR := hide row
  have SV := hide sv
  have BV := hide bv
  clear row sv bv
  go_wp2_with fail
  clear y0 y1 y2 f0 f1 f2
  have Z := heap_setCell_same _ w.heap.size 2 _ _ (.slice h'.pa e.ps.length h'.pc) (heap_setCell_same _ w.heap.size 1 _ _ (.slice h'.ra e.rs.length h'.rc) (heap_setCell_same V w.heap.size 0 _ _ (.int .i64 e.ver) (unhide VR)))
  have k0 := box_cell Z 0 (.int .i64 e.ver) rfl
  have k1 := box_cell Z 1 (.slice h'.ra e.rs.length h'.rc) rfl
  have k2 := box_cell Z 2 (.slice h'.pa e.ps.length h'.pc) rfl
  have VB := (((b1.trans ((unhide BV).mono b1.size)).setCell (p := ⟨w.heap.size, 0, none⟩) (by simp) (.int .i64 e.ver)).setCell (p := ⟨w.heap.size, 1, none⟩) (by simp) (.slice h'.ra e.rs.length h'.rc)).setCell (p := ⟨w.heap.size, 2, none⟩) (by simp) (.slice h'.pa e.ps.length h'.pc)
  have VO : CfAt (((V.setCell ⟨w.heap.size, 0, none⟩ (.int .i64 e.ver)).setCell ⟨w.heap.size, 1, none⟩ (.slice h'.ra e.rs.length h'.rc)).setCell ⟨w.heap.size, 2, none⟩ (.slice h'.pa e.ps.length h'.pc)) e h' := unhide SV _ (fun g hg _ => by
    have hne : g ≠ w.heap.size := by omega
    exact (heap_setCell_other _ ⟨w.heap.size, 2, none⟩ g _ hne).trans ((heap_setCell_other _ ⟨w.heap.size, 1, none⟩ g _ hne).trans (heap_setCell_other V ⟨w.heap.size, 0, none⟩ g _ hne)))
  generalize ((V.setCell ⟨w.heap.size, 0, none⟩ (.int .i64 e.ver)).setCell ⟨w.heap.size, 1, none⟩ (.slice h'.ra e.rs.length h'.rc)).setCell ⟨w.heap.size, 2, none⟩ (.slice h'.pa e.ps.length h'.pc) = VV at *
  refine bodyPost_ret (v := .agg #[.int .i64 e.ver, .slice h'.ra e.rs.length h'.rc, .slice h'.pa e.ps.length h'.pc]) (by simp [results, Tryz.results14, go_sem, k0, k1, k2]) rfl ⟨h', rfl, VO, VB⟩
end Go.Proofs.YtcmiappiocfbiaaGreatDoor
end
/- Plane: a deed of the law as an argument. -/
section
namespace Go.Proofs.YtcmiappiocfbiaaGreatDoor
open Go.ChangeShapes Go.WideShapes Go.ChangeAt Go.RowKit
set_option linter.unusedVariables false

set_option maxRecDepth 20000 in
theorem conf_trod {H : Type} {enc : TypeId × Value → H} {W : World} {n : Nat} {v0 v1 v2 : Value} {y : DataW H × List MemPlace}
    (h2 : DataW.trod enc Tryz.prog W 0 (fun _ => true) true n 28 [v0, v1, v2] = some y) : ∃ (e : Cf) (q : CfH), v0 = .int .i64 e.ver ∧ v1 = .slice q.ra e.rs.length q.rc ∧ v2 = .slice q.pa e.ps.length q.pc ∧ CfAt W e q := by
  obtain ⟨xs, n', _, _, _, hx, hfs⟩ := DataW.trod_struct Tryz.underlying28 h2
  obtain ⟨y0, y1, y2, rfl⟩ := list3 (show xs.length = 3 from hx)
  obtain ⟨k, e0, _, w0⟩ := DataW.trod_int Tryz.underlying3 (show DataW.trod enc Tryz.prog W 0 (fun _ => true) true n' 3 [v0] = some y0 from hfs 0 _ rfl)
  have t1 : DataW.trod enc Tryz.prog W 0 (fun _ => true) true n' 25 [v1] = some y1 := hfs 1 _ rfl
  have t2 : DataW.trod enc Tryz.prog W 0 (fun _ => true) true n' 26 [v2] = some y2 := hfs 2 _ rfl
  obtain ⟨ra, rn, rc, e1⟩ := Joins.slice_form Tryz.underlying25 t1
  obtain ⟨pa, pn, pc, e2⟩ := Joins.slice_form Tryz.underlying26 t2
  simp only [List.cons.injEq, and_true] at e0 e1 e2
  subst e0 e1 e2
  have hs1 : DataW.Trod enc Tryz.prog W 0 (fun _ => true) true 25 (.slice ra rn rc) y1.1 y1.2 := ⟨n', t1⟩
  have hs2 : DataW.Trod enc Tryz.prog W 0 (fun _ => true) true 26 (.slice pa pn pc) y2.1 y2.2 := ⟨n', t2⟩
  obtain ⟨rs, rfl, hl1, hR⟩ := routes_arg hs1
  obtain ⟨ps, rfl, hl2, hP⟩ := pools_arg hs2
  exact ⟨⟨k, rs, ps⟩, ⟨ra, rc, pa, pc⟩, rfl, rfl, rfl, i64_bounds w0, hR, hP, hl1, hl2, slice_nil0 Tryz.underlying25 hs1⟩
theorem list4p {α : Type} {l : List α} (h : l.length = 4) : ∃ c0 c1 c2 c3, l = [c0, c1, c2, c3] := by
  match l, h with
  | [c0, c1, c2, c3], _ => exact ⟨c0, c1, c2, c3, rfl⟩
theorem list6p {vs : Array Value} (h : vs.size = 6) : ∃ c0 c1 c2 c3 c4 c5, vs = #[c0, c1, c2, c3, c4, c5] := by
  obtain ⟨l⟩ := vs
  match l, h with
  | [c0, c1, c2, c3, c4, c5], _ => exact ⟨c0, c1, c2, c3, c4, c5, rfl⟩
/-- A deed of a plane's script, and where its rows lie. -/
structure Pd where
  kind : Int
  cf : Cf
  bs : List Nat
  draw : Nat
structure PdH where
  cf : CfH
  ba : Option Addr
  bc : Nat
def pdVal (e : Pd) (h : PdH) : Value := .agg #[.int .i64 e.kind, .int .i64 e.cf.ver, .slice h.cf.ra e.cf.rs.length h.cf.rc, .slice h.cf.pa e.cf.ps.length h.cf.pc, .slice h.ba e.bs.length h.bc, .float .f64 e.draw]
structure PdAt (w : World) (e : Pd) (h : PdH) : Prop where
  wk : -9223372036854775808 ≤ e.kind ∧ e.kind ≤ 9223372036854775807
  cf : CfAt w e.cf h.cf
  bts : BytesAt w h.ba e.bs
  bl : e.bs.length ≤ h.bc ∧ h.bc ≤ maxLen
  bz : h.ba = none → h.bc = 0
  dl : e.draw < 18446744073709551616
theorem PdAt.later {w w' : World} {e : Pd} {h : PdH} (x : PdAt w e h) (hb : Below w.heap.size w w') : PdAt w' e h := ⟨x.wk, x.cf.later hb, x.bts.later hb, x.bl, x.bz, x.dl⟩
set_option maxRecDepth 20000 in
theorem pd_open {H : Type} {enc : TypeId × Value → H} {W : World} {n : Nat} {v0 v1 v2 v3 v4 v5 : Value} {y : DataW H × List MemPlace}
    (h2 : DataW.trod enc Tryz.prog W 0 (fun _ => true) true n 32 [v0, v1, v2, v3, v4, v5] = some y) :
    ∃ (e : Pd) (h : PdH), v0 = .int .i64 e.kind ∧ v1 = .int .i64 e.cf.ver ∧ v2 = .slice h.cf.ra e.cf.rs.length h.cf.rc ∧ v3 = .slice h.cf.pa e.cf.ps.length h.cf.pc ∧ v4 = .slice h.ba e.bs.length h.bc ∧ v5 = .float .f64 e.draw ∧ PdAt W e h := by
  obtain ⟨xs, n', _, _, _, hx, hfs⟩ := DataW.trod_struct Tryz.underlying32 h2
  obtain ⟨y0, y1, y2, y3, rfl⟩ := list4p (show xs.length = 4 from hx)
  obtain ⟨k, e0, _, w0⟩ := DataW.trod_int Tryz.underlying3 (show DataW.trod enc Tryz.prog W 0 (fun _ => true) true n' 3 [v0] = some y0 from hfs 0 _ rfl)
  obtain ⟨e, q, rfl, rfl, rfl, hc⟩ := conf_trod (show DataW.trod enc Tryz.prog W 0 (fun _ => true) true n' 28 [v1, v2, v3] = some y1 from hfs 1 _ rfl)
  have t4 : DataW.trod enc Tryz.prog W 0 (fun _ => true) true n' 29 [v4] = some y2 := hfs 2 _ rfl
  obtain ⟨x, rfl, hd⟩ := trod_float1 (show DataW.trod enc Tryz.prog W 0 (fun _ => true) true n' 30 [v5] = some y3 from hfs 3 _ rfl)
  obtain ⟨a', l', c', e4⟩ := Joins.slice_form Tryz.underlying29 t4
  simp only [List.cons.injEq, and_true] at e0 e4
  subst e0 e4
  have hs : DataW.Trod enc Tryz.prog W 0 (fun _ => true) true 29 (.slice a' l' c') y2.1 y2.2 := ⟨n', t4⟩
  obtain ⟨bs, rfl, hc4, hx4, hb, hz, _⟩ := row8 hs
  exact ⟨⟨k, e, bs, x⟩, ⟨q, a', c'⟩, rfl, rfl, rfl, rfl, rfl, rfl, i64_bounds w0, hc, hb, ⟨hc4, hx4⟩, hz, hd⟩
set_option maxRecDepth 20000 in
theorem open_pd {H : Type} {enc : TypeId × Value → H} {W : World} {r : Reach} {b0 : Nat} {v : Value} {d : DataW H} {p : List MemPlace} (hv : Value.okWide Tryz.prog W r b0 32 v)
    (h : DataW.Trod enc Tryz.prog W 0 (fun _ => true) true 32 v d p) : ∃ (e : Pd) (q : PdH), v = pdVal e q ∧ PdAt W e q := by
  obtain ⟨cs, rfl, hsz⟩ := okWide_struct Tryz.underlying32 hv
  have c6 : Tryz.prog.cellsOf 32 = 6 := by kernel_rfl
  obtain ⟨v0, v1, v2, v3, v4, v5, rfl⟩ := list6p (hsz.trans c6)
  obtain ⟨fuel, hf⟩ := h
  obtain ⟨e, q, rfl, rfl, rfl, rfl, rfl, rfl, hd⟩ := pd_open (show DataW.trod enc Tryz.prog W 0 (fun _ => true) true fuel 32 [v0, v1, v2, v3, v4, v5] = some (d, p) from hf)
  exact ⟨e, q, rfl, hd⟩
end Go.Proofs.YtcmiappiocfbiaaGreatDoor
end
/- Plane: the law PlaneSame, where it looks at nothing (under way: the rest of the walk). -/
section
namespace Go.Proofs.YtcmiappiocfbiaaGreatDoor
open Go.ChangeShapes Go.WideShapes Go.ChangeAt Go.RowKit
set_option linter.unusedVariables false

set_option maxRecDepth 20000 in
set_option maxHeartbeats 8000000 in
theorem same_shortA (a : Cf) (ha : CfH) (b : Cf) (hb : CfH) (x : Pd) (hx : PdH) (w : World) (h1 : CfAt w a ha) (h2 : CfAt w b hb) (h3 : PdAt w x hx) (hs : shortC a = false) :
    Calls Tryz.prog 5 #[cfVal a ha, cfVal b hb, pdVal x hx] w fun e w' => e = .returned (.bool true) ∧ Below w.heap.size w w' := by
  have b1 : Below w.heap.size w (w.alloc (.cells #[.int .i64 a.ver, .slice ha.ra a.rs.length ha.rc, .slice ha.pa a.ps.length ha.pc] 28)) := (Below.refl _ _).alloc (Nat.le_refl _) _
  have X1 := heap_new w (.cells #[.int .i64 a.ver, .slice ha.ra a.rs.length ha.rc, .slice ha.pa a.ps.length ha.pc] 28)
  have b2 : Below (w.alloc (.cells #[.int .i64 a.ver, .slice ha.ra a.rs.length ha.rc, .slice ha.pa a.ps.length ha.pc] 28)).heap.size (w.alloc (.cells #[.int .i64 a.ver, .slice ha.ra a.rs.length ha.rc, .slice ha.pa a.ps.length ha.pc] 28)) ((w.alloc (.cells #[.int .i64 a.ver, .slice ha.ra a.rs.length ha.rc, .slice ha.pa a.ps.length ha.pc] 28)).alloc (.cells #[.int .i64 b.ver, .slice hb.ra b.rs.length hb.rc, .slice hb.pa b.ps.length hb.pc] 28)) := (Below.refl _ _).alloc (Nat.le_refl _) _
  have b3 := ((Below.refl ((w.alloc (.cells #[.int .i64 a.ver, .slice ha.ra a.rs.length ha.rc, .slice ha.pa a.ps.length ha.pc] 28)).alloc (.cells #[.int .i64 b.ver, .slice hb.ra b.rs.length hb.rc, .slice hb.pa b.ps.length hb.pc] 28)).heap.size _).alloc (Nat.le_refl _) (.cells #[.int .i64 x.kind, .int .i64 x.cf.ver, .slice hx.cf.ra x.cf.rs.length hx.cf.rc, .slice hx.cf.pa x.cf.ps.length hx.cf.pc, .slice hx.ba x.bs.length hx.bc, .float .f64 x.draw] 32))
  have B := b1.trans ((b2.trans (b3.mono b2.size)).mono b1.size)
  have row := later_block b3 (later_block b2 X1)
  have SC := short_calls (h1.later B)
  rw [hs] at SC
  have SC := hide SC
  have c0 := box_cell row 0 _ rfl
  have c1 := box_cell row 1 _ rfl
  have c2 := box_cell row 2 _ rfl
  have BB := hide B
  unfold cfVal pdVal at *
  clear b1 b2 b3 X1 row B h1 h2 h3 hs
  go_enter Tryz.func5, Tryz.ntmps5
  go_wp2_with (first
    | (go_at_call 7; refine (unhide SC).mono ?_; rintro r V1 ⟨rfl, v1⟩; have D1 := hide ((unhide BB).trans (v1.mono (unhide BB).size)); clear v1)
    | (go_at_call 15; refine (live10_calls _).mono ?_; rintro r V2 ⟨rfl, v2⟩; have D2 := hide ((unhide D1).trans (v2.mono (unhide D1).size)); clear v2))
  go_ret
  exact ⟨rfl, unhide D2⟩
end Go.Proofs.YtcmiappiocfbiaaGreatDoor
end
