/- Snapshots: Load. -/
import Derived.Test.YtagncghpfdjkmaaGreatDoorB24
namespace Go.Proofs.YtagncghpfdjkmaaGreatDoor
open Go.ChangeShapes Go.WideShapes Go.ChangeAt Go.RowKit
set_option linter.unusedVariables false

/-- The newest snapshot that is whole. -/
def loadL : List Fl → Ds → Option Sn
  | [], _ => none
  | f :: r, ss => if readE f.1 ss ≠ 0 then loadL r ss else match snL (nowL f.1 ss) with
    | .error _ => loadL r ss
    | .ok s => if snNm s.i.toNat = f.1 ∧ s.i = (f.2 : Int) then some s else loadL r ss
def sLoad (ss : Ds) : Option Sn := loadL (sorD (filS (ss.map (·.1)))) ss
theorem snL_pos {l : List Nat} {x : Nat} (h : snL l = .error x) : x ≠ 0 := by
  unfold snL at h
  split at h
  · rename_i h0
    cases h
    exact h0
  split at h
  · cases h
    decide
  · have := all_is (nextH l 0)
    rw [h] at this
    exact this.2
theorem SnAt.far {w w' : World} {s : Sn} {h : SnH} {j : Nat} (z : SnAt w s h) (g : w.grownBy w' (some j)) (hne : ∀ ad, h.va = some ad ∨ h.la = some ad ∨ h.dp = some ad → ad.block ≠ j) : SnAt w' s h := by
  have key : ∀ (b off : Nat) (v : Value), w.cell? ⟨b, off, none⟩ = some v → b ≠ j → w'.cell? ⟨b, off, none⟩ = some v := fun b off v hc hb => (World.cell?_of_block (a := ⟨b, off, none⟩) (g.block b (cell_lt hc) (fun e => hb (Option.some.inj e)))).trans hc
  refine ⟨z.bi, z.bt, ⟨z.v.bd, fun i hi => ?_⟩, ⟨z.l.bd, fun i hi => ?_⟩, ⟨z.d.lt, fun i hi => ?_⟩, z.vn, z.ln, z.dn, z.dm, z.dz⟩
  · obtain ⟨b, off, e, hc⟩ := z.v.cell i hi
    exact ⟨b, off, e, key b _ _ hc (hne _ (.inl e))⟩
  · obtain ⟨b, off, e, hc⟩ := z.l.cell i hi
    exact ⟨b, off, e, key b _ _ hc (hne _ (.inr (.inl e)))⟩
  · obtain ⟨b, off, e, hc⟩ := z.d.cell i hi
    exact ⟨b, off, e, key b _ _ hc (hne _ (.inr (.inr e)))⟩
/-- How Load ends. -/
def LoadEnd (r : Option Sn) (w : World) (e : Ending) (w' : World) : Prop := ∃ h, e = .returned (.tuple #[.agg (snRow (r.getD sn0) h), .int .i64 (if r.isSome then 0 else 8)]) ∧ SnAt w' (r.getD sn0) h ∧ Below w.heap.size w w'
set_option maxRecDepth 20000 in
set_option maxHeartbeats 16000000 in
theorem load_calls {Av : Nat → Prop} {base : Nat} {w : World} {d M room N : Nat} {ss : Ds} (h : DAt Av base w d M room N ss) (ht : Tz w) : Calls Tryz.prog 30 #[.pointer (some ⟨d, 0, none⟩)] w (LoadEnd (sLoad ss) w) := by
  have u1 := hide (show Below w.heap.size w (w.alloc (.cells #[.int .i64 0, .int .i64 0, .slice none 0 0, .slice none 0 0, .slice none 0 0] 29)) from (Below.refl _ _).alloc (Nat.le_refl _) _)
  have Y1 := hide (heap_new w (.cells #[.int .i64 0, .int .i64 0, .slice none 0 0, .slice none 0 0, .slice none 0 0] 29))
  have H := hide h
  have TT := hide ht
  have NC := hide (anames_calls (h.later (unhide u1)))
  have SL := hide (show sLoad ss = loadL (sorD (filS (ss.map (·.1)))) ss from rfl)
  generalize sLoad ss = R0 at *
  clear h ht
  go_enter Tryz.func30, Tryz.ntmps30
  go_wp2_with fail
  refine wp_scope_straight ?_
  go_wp2_with fail
  refine wp_label ?_

  go_wp2_with fail
  generalize w.alloc (.cells #[.int .i64 0, .int .i64 0, .slice none 0 0, .slice none 0 0, .slice none 0 0] 29) = W1 at *
  generalize hD : w.heap.size = D at *
  have DK := hide hD
  go_at_call 33
  refine (unhide NC).mono ?_
  rintro e V4 ⟨np, nn, nc, rfl, hnn, hno, v4⟩
  have U4 := hide (show Below w.heap.size w V4 from by
    rw [hD]
    exact (unhide u1).trans (v4.mono (by rw [← hD]; exact (unhide u1).size)))
  have FC := hide (filesOf_calls (n := nn) hno (by rw [List.length_map]; exact hnn) (by rw [← hnn]; exact Nat.le_trans (unhide H).len (by omega)) (fun s hs => by
    obtain ⟨x, hx, rfl⟩ := List.mem_map.1 hs
    exact (unhide H).nmlen x hx) ((unhide TT).later (unhide U4)))
  have Y2 := hide (later_block v4 (unhide Y1))
  clear NC hno hnn v4 u1 Y1
  go_wp2_with fail
  go_at_call 87
  refine (unhide FC).mono ?_
  rintro e V5 ⟨fs, fp, fc, m, rfl, hfm, hpm, hpd, hof, v5⟩
  have FS := hide (files_are hpm hpd)
  have U5 := hide ((unhide U4).trans (v5.mono (unhide U4).size))
  have Y5 := hide (later_block v5 (unhide Y2))
  have OF := hide hof
  have FM := hide hfm
  have hml : m ≤ 16 := by
    rw [← hfm, hpm.length_eq]
    exact Nat.le_trans (filS_len _) (by rw [List.length_map]; exact (unhide H).len)
  have FIN := hide (show ∀ f ∈ fs, f.1.length ≤ 64 ∧ f.2 ≤ 1099511627776 from fun f hf => by
    have hm := filS_mem (hpm.mem_iff.1 hf)
    obtain ⟨x, hx, he⟩ := List.mem_map.1 hm.1
    rw [← he]
    exact ⟨(unhide H).nmlen x hx, hm.2.2.2⟩)
  rw [← unhide FS] at SL
  clear hfm hpm hpd hof v5 FC FS Y2 U4
  go_wp2_with fail
  go_loopw [16] (fun v wr => ∃ j : Nat, j ≤ m ∧ v = .int .i64 (j : Int) ∧ Hid (loadL (fs.drop j) ss = R0) ∧ Hid (Below V5.heap.size V5 wr)) (fun v _ => m - (intOf v).toNat)
  case atStart => exact ⟨0, by omega, rfl, hide (by rw [unhide SL]; rfl), hide (Below.refl _ _)⟩
  case round =>
    obtain ⟨j, hj, rfl, RQ, F⟩ := hrel
    have YR := hide (later_block (unhide F) (unhide Y5))
    have UR := hide ((unhide U5).trans ((unhide F).mono (unhide U5).size))
    by_cases hjm : j < m
    · have y0 : (0 : Int) ≤ (j : Int) := by omega
      have y1 : (j : Int) < (m : Int) := by omega
      have hjl : j < fs.length := by rw [unhide FM]; exact hjm
      obtain ⟨g, rfl, hg1, hg2, c0, c1⟩ := (unhide OF).at_ j hjl
      have p0 := cell_later (unhide F) c0
      have p1 := cell_later (unhide F) c1
      have DR := hide (List.drop_eq_getElem_cons hjl)
      have f64 := unhide FIN _ (List.getElem_mem hjl)
      generalize fs[j] = f at *
      obtain ⟨fn, fi⟩ := f
      dsimp only at p0 p1 f64
      have U6 := hide ((Below.refl wr.heap.size wr).alloc (Nat.le_refl _) (.cells #[.string (str fn), .int .i64 (fi : Int)] 111))
      have X6 := hide (heap_new wr (.cells #[.string (str fn), .int .i64 (fi : Int)] 111))
      have F6 := hide ((unhide F).trans ((unhide U6).mono (unhide F).size))
      have UR6 := hide ((unhide UR).trans ((unhide U6).mono (unhide UR).size))
      have NF := hide (show (str fn).data.toList = fn from rfl)
      have RC := hide (aread_calls ((unhide H).later (unhide UR6)) (str fn) (by rw [str_size]; simp only [maxLen]; omega))
      rw [unhide NF] at RC
      have LQ := hide (show (if readE fn ss ≠ 0 then loadL (fs.drop (j + 1)) ss else match snL (nowL fn ss) with
        | .error _ => loadL (fs.drop (j + 1)) ss
        | .ok s => if snNm s.i.toNat = fn ∧ s.i = (fi : Int) then some s else loadL (fs.drop (j + 1)) ss) = R0 from by
        rw [← unhide RQ, unhide DR]
        rfl)
      have x0 := box_cell (unhide X6) 0 _ rfl
      clear c0 c1 U6
      generalize hsn : str fn = sn at *
      go_wp2_with fail
      clear p0 p1 x0
      generalize wr.alloc _ = W6 at *
      generalize wr.heap.size = E at *
      go_at_call 88
      refine (unhide RC).mono ?_
      rintro e V7 ⟨bp, bn, rfl, hbn, hbl, hbx, v7⟩
      have F7 := hide ((unhide F6).trans (v7.mono (unhide F6).size))
      have X7 := hide (later_block v7 (unhide X6))
      rcases readE_or fn ss with hr | hr
      · rw [if_neg (by rw [hr]; simp)] at LQ
        rw [hr, show ((0 : Nat) : Int) = 0 from rfl]
        have GC := hide (sget_calls bp bn bn (nowL fn ss) V7 hbn (Nat.le_refl _) (by simp only [maxLen]; omega) hbx.bytes)
        have HBL := hide hbx.lt
        clear hbx v7 RC hr hbn
        go_wp2_with fail
        go_at_call 19
        refine (unhide GC).mono ?_
        rintro e V8 ⟨sh, rfl, hs8, hlo8, v8⟩
        have ND := hide (show ∀ ad, sh.va = some ad ∨ sh.la = some ad ∨ sh.dp = some ad → ad.block ≠ D from fun ad he => by
          have h1 := hlo8 ad he
          have h2 := (unhide F7).size
          have h3 := (Array.getElem?_eq_some_iff.1 (unhide Y5)).1
          omega)
        clear hlo8
        cases hr8 : snL (nowL fn ss) with
        | error x =>
          have hx := snL_pos hr8
          rw [hr8] at LQ
          have EQ8 : snOf (Except.error x : Except Nat Sn) = sn0 := rfl
          dsimp only [snX, snOf]
          unfold snRow
          have y3 : ¬ (x : Int) = 0 := by omega
          have y4 : ((x : Int) == 0) = false := by simp [hx]
          have y5 : ((x : Int) != 0) = true := by simp [hx]
          have y6 : decide ((x : Int) = 0) = false := decide_eq_false y3
          generalize (x : Int) = xi at *
          generalize sn0 = t at *
          have U8 := hide ((Below.refl V8.heap.size V8).alloc (Nat.le_refl _) (.cells #[.int .i64 t.i, .int .i64 t.t, .slice sh.va t.v.length sh.vc, .slice sh.la t.l.length sh.lc, .slice sh.dp t.d.length sh.dc] 29))
          have X8 := hide (heap_new V8 (.cells #[.int .i64 t.i, .int .i64 t.t, .slice sh.va t.v.length sh.vc, .slice sh.la t.l.length sh.lc, .slice sh.dp t.d.length sh.dc] 29))
          have F8 := hide (((unhide F7).trans (v8.mono (unhide F7).size)).trans ((unhide U8).mono ((unhide F7).trans (v8.mono (unhide F7).size)).size))
          have X78 := hide (later_block (unhide U8) (later_block v8 (unhide X7)))
          clear v8 hs8 GC hr8
          go_wp2_with fail
          generalize V8.alloc _ = W8 at *
          generalize V8.heap.size = S8 at *
          have d1 : W8.drew.cell? ⟨E, 0, none⟩ = some (.string sn) := box_cell (unhide X78) 0 _ rfl
          have d2 : W8.drew.cell? ⟨E, 1, none⟩ = some (.int .i64 (fi : Int)) := box_cell (unhide X78) 1 _ rfl
          have d0 : W8.drew.cell? ⟨S8, 0, none⟩ = some (.int .i64 t.i) := box_cell (unhide X8) 0 _ rfl
          generalize hi8 : t.i = i8 at *
          refine wp_region_held_drew (S := fun w' => w'.cell? ⟨S8, 0, none⟩ = some (.int .i64 i8) ∧ w'.cell? ⟨E, 0, none⟩ = some (.string sn) ∧ w'.cell? ⟨E, 1, none⟩ = some (.int .i64 (fi : Int))) (by kernel_rfl) ?_ (fun hHeld => ?_)
          · try dsimp only
            first | exact ⟨d0, d1, d2⟩ | exact ⟨e0, e1, e2⟩
          refine held_take 0 (oi := { dst := some 34, op := Op.move (Operand.tmp 7), type := 31, pos := "file.go:94", after := #[], guard := none }) (v := ?_) (by kernel_rfl) rfl (by rfl) (by kernel_rfl) (by kernel_rfl) (fun _ _ _ h => h) ?_ (by assumption) ?_
          rotate_left
          · (intro w hSw; (try dsimp only at hSw); go_simp; try with_reducible rfl)
          try simp only [Act.put, List.setIfInBounds_toArray, List.set_cons_zero, List.set_cons_succ]
          refine held_take 1 (oi := { dst := some 35, op := Op.binOp BinOp.neq 31 (Operand.tmp 34) (Operand.const (Value.int IntKind.i64 0)) 31, type := 4, pos := "file.go:94", after := #[{ on := 0, ground := Ground.data }], guard := none }) (v := ?_) (by kernel_rfl) rfl (by rfl) (by kernel_rfl) (by kernel_rfl) (fun _ _ _ h => h) ?_ (by assumption) ?_
          rotate_left
          · (intro w hSw; (try dsimp only at hSw); go_simp; try with_reducible rfl)
          try simp only [Act.put, List.setIfInBounds_toArray, List.set_cons_zero, List.set_cons_succ]
          refine held_take 2 (oi := { dst := some 36, op := Op.move (Operand.tmp 35), type := 4, pos := "file.go:94", after := #[{ on := 1, ground := Ground.data }], guard := none }) (v := ?_) (by kernel_rfl) rfl (by rfl) (by kernel_rfl) (by kernel_rfl) (fun _ _ _ h => h) ?_ (by assumption) ?_
          rotate_left
          · (intro w hSw; (try dsimp only at hSw); go_simp; try with_reducible rfl)
          try simp only [Act.put, List.setIfInBounds_toArray, List.set_cons_zero, List.set_cons_succ]
          refine held_skip 3 (oi := { dst := some 37, op := Op.fieldAddr 29 (Operand.tmp 8) 0, type := 0, pos := "file.go:94", after := #[{ on := 2, ground := Ground.guard }], guard := some (2, false) }) (by kernel_rfl) rfl (by rfl) (by kernel_rfl) (by kernel_rfl) (fun _ _ _ h => h) (by assumption) ?_
          try simp only [Act.put, List.setIfInBounds_toArray, List.set_cons_zero, List.set_cons_succ]
          refine held_skip 4 (oi := { dst := some 38, op := Op.fieldAddr 23 (Operand.tmp 37) 0, type := 0, pos := "file.go:94", after := #[{ on := 3, ground := Ground.data }, { on := 2, ground := Ground.guard }], guard := some (2, false) }) (by kernel_rfl) rfl (by rfl) (by kernel_rfl) (by kernel_rfl) (fun _ _ _ h => h) (by assumption) ?_
          try simp only [Act.put, List.setIfInBounds_toArray, List.set_cons_zero, List.set_cons_succ]
          refine held_skip 5 (oi := { dst := some 39, op := Op.load 3 (Operand.tmp 38), type := 3, pos := "file.go:94", after := #[{ on := 4, ground := Ground.data }, { on := 2, ground := Ground.guard }], guard := some (2, false) }) (by kernel_rfl) rfl (by rfl) (by kernel_rfl) (by kernel_rfl) (fun _ _ _ h => h) (by assumption) ?_
          try simp only [Act.put, List.setIfInBounds_toArray, List.set_cons_zero, List.set_cons_succ]
          refine held_skip 7 (oi := { dst := some 41, op := Op.load 111 (Operand.tmp 5), type := 111, pos := "file.go:94", after := #[{ on := 2, ground := Ground.guard }], guard := some (2, false) }) (by kernel_rfl) rfl (by rfl) (by kernel_rfl) (by kernel_rfl) (fun _ _ _ h => h) (by assumption) ?_
          try simp only [Act.put, List.setIfInBounds_toArray, List.set_cons_zero, List.set_cons_succ]
          refine held_none 6 (oi := { dst := some 40, op := Op.call { callee := Callee.value (Operand.func 71), args := #[Operand.tmp 39], argTypes := #[3] }, type := 111, pos := "file.go:94", after := #[{ on := 5, ground := Ground.data }, { on := 2, ground := Ground.chain }, { on := 2, ground := Ground.guard }], guard := some (2, false) }) (by kernel_rfl) rfl (by rfl) (by assumption) ?_
          try simp only [Act.put, List.setIfInBounds_toArray, List.set_cons_zero, List.set_cons_succ]
          refine held_skip 8 (oi := { dst := some 42, op := Op.binOp BinOp.neq 111 (Operand.tmp 40) (Operand.tmp 41) 111, type := 4, pos := "file.go:94", after := #[{ on := 6, ground := Ground.data }, { on := 7, ground := Ground.data }, { on := 2, ground := Ground.guard }], guard := some (2, false) }) (by kernel_rfl) rfl (by rfl) (by kernel_rfl) (by kernel_rfl) (fun _ _ _ h => h) (by assumption) ?_
          try simp only [Act.put, List.setIfInBounds_toArray, List.set_cons_zero, List.set_cons_succ]
          refine held_take 9 (oi := { dst := some 43, op := Op.pick (Operand.tmp 36) (Operand.const (Value.bool true)) (Operand.tmp 42), type := 4, pos := "file.go:94", after := #[{ on := 2, ground := Ground.data }, { on := 8, ground := Ground.data }], guard := none }) (v := ?_) (by kernel_rfl) rfl (by rfl) (by kernel_rfl) (by kernel_rfl) (fun _ _ _ h => h) ?_ (by assumption) ?_
          rotate_left
          · (intro w hSw; (try dsimp only at hSw); go_simp; try with_reducible rfl)
          try simp only [Act.put, List.setIfInBounds_toArray, List.set_cons_zero, List.set_cons_succ]
          refine wpAnyH_done (by kernel_rfl) ?_ _
          have F9 := hide ((unhide F8).trans ((Below.refl _ _).drew))
          go_wp2
          exact ⟨⟨j + 1, by omega, by go_num, LQ, F9⟩, by simp [intOf]; omega⟩
        | ok t =>
          rw [hr8] at LQ
          obtain ⟨may, _⟩ := snL_back (unhide HBL) hr8
          obtain ⟨⟨mi1, mi2⟩, _⟩ := snE_may may
          rw [hr8] at hs8
          dsimp only [snX, snOf] at hs8 ⊢
          unfold snRow
          dsimp only at LQ
          have U8 := hide ((Below.refl V8.heap.size V8).alloc (Nat.le_refl _) (.cells #[.int .i64 t.i, .int .i64 t.t, .slice sh.va t.v.length sh.vc, .slice sh.la t.l.length sh.lc, .slice sh.dp t.d.length sh.dc] 29))
          have X8 := hide (heap_new V8 (.cells #[.int .i64 t.i, .int .i64 t.t, .slice sh.va t.v.length sh.vc, .slice sh.la t.l.length sh.lc, .slice sh.dp t.d.length sh.dc] 29))
          have F8 := hide (((unhide F7).trans (v8.mono (unhide F7).size)).trans ((unhide U8).mono ((unhide F7).trans (v8.mono (unhide F7).size)).size))
          have X78 := hide (later_block (unhide U8) (later_block v8 (unhide X7)))
          have HS9 := hide ((hs8.later (unhide U8)))
          have FOX := hide (fun W (u : Below V5.heap.size V5 W) => fileOf_calls t.i.toNat (by omega) W ((unhide TT).later ((unhide U5).trans (u.mono (unhide U5).size))))
          rw [show ((t.i.toNat : Nat) : Int) = t.i by omega] at FOX
          clear v8 hs8 GC hr8 may
          rw [show ((0 : Nat) : Int) = 0 from rfl]
          go_wp2_with fail
          generalize V8.alloc _ = W8 at *
          generalize V8.heap.size = S8 at *
          have d1 : W8.drew.cell? ⟨E, 0, none⟩ = some (.string sn) := box_cell (unhide X78) 0 _ rfl
          have d2 : W8.drew.cell? ⟨E, 1, none⟩ = some (.int .i64 (fi : Int)) := box_cell (unhide X78) 1 _ rfl
          have d0 : W8.drew.cell? ⟨S8, 0, none⟩ = some (.int .i64 t.i) := box_cell (unhide X8) 0 _ rfl
          generalize hi8 : t.i = i8 at *
          have FO := hide (unhide FOX W8.drew ((unhide F8).trans ((Below.refl _ _).drew)))
          by_cases hq1 : snNm i8.toNat = fn
          · have hb1 : ((str (snNm i8.toNat)).toList == sn.toList) = true := by rw [← hsn, str_eqN, hq1]; simp
            by_cases hq2 : i8 = (fi : Int)
            · subst hq2
              have hb2 : ((fi : Int) == (fi : Int)) = true := by simp
              rw [if_pos ⟨hq1, rfl⟩] at LQ
              generalize str (snNm ((fi : Int)).toNat) = nk at *
              refine wp_region_held_drew (S := fun w' => w'.cell? ⟨S8, 0, none⟩ = some (.int .i64 (fi : Int)) ∧ w'.cell? ⟨E, 0, none⟩ = some (.string sn) ∧ w'.cell? ⟨E, 1, none⟩ = some (.int .i64 (fi : Int))) (by kernel_rfl) ?_ (fun hHeld => ?_)
              · try dsimp only
                first | exact ⟨d0, d1, d2⟩ | exact ⟨e0, e1, e2⟩
              refine held_take 0 (oi := { dst := some 34, op := Op.move (Operand.tmp 7), type := 31, pos := "file.go:94", after := #[], guard := none }) (v := ?_) (by kernel_rfl) rfl (by rfl) (by kernel_rfl) (by kernel_rfl) (fun _ _ _ h => h) ?_ (by assumption) ?_
              rotate_left
              · (intro w hSw; (try dsimp only at hSw); go_simp; try with_reducible rfl)
              try simp only [Act.put, List.setIfInBounds_toArray, List.set_cons_zero, List.set_cons_succ]
              refine held_take 1 (oi := { dst := some 35, op := Op.binOp BinOp.neq 31 (Operand.tmp 34) (Operand.const (Value.int IntKind.i64 0)) 31, type := 4, pos := "file.go:94", after := #[{ on := 0, ground := Ground.data }], guard := none }) (v := ?_) (by kernel_rfl) rfl (by rfl) (by kernel_rfl) (by kernel_rfl) (fun _ _ _ h => h) ?_ (by assumption) ?_
              rotate_left
              · (intro w hSw; (try dsimp only at hSw); go_simp; try with_reducible rfl)
              try simp only [Act.put, List.setIfInBounds_toArray, List.set_cons_zero, List.set_cons_succ]
              refine held_take 2 (oi := { dst := some 36, op := Op.move (Operand.tmp 35), type := 4, pos := "file.go:94", after := #[{ on := 1, ground := Ground.data }], guard := none }) (v := ?_) (by kernel_rfl) rfl (by rfl) (by kernel_rfl) (by kernel_rfl) (fun _ _ _ h => h) ?_ (by assumption) ?_
              rotate_left
              · (intro w hSw; (try dsimp only at hSw); go_simp; try with_reducible rfl)
              try simp only [Act.put, List.setIfInBounds_toArray, List.set_cons_zero, List.set_cons_succ]
              refine held_take 3 (oi := { dst := some 37, op := Op.fieldAddr 29 (Operand.tmp 8) 0, type := 0, pos := "file.go:94", after := #[{ on := 2, ground := Ground.guard }], guard := some (2, false) }) (v := ?_) (by kernel_rfl) rfl (by rfl) (by kernel_rfl) (by kernel_rfl) (fun _ _ _ h => h) ?_ (by assumption) ?_
              rotate_left
              · (intro w hSw; (try dsimp only at hSw); go_simp; try with_reducible rfl)
              try simp only [Act.put, List.setIfInBounds_toArray, List.set_cons_zero, List.set_cons_succ]
              refine held_take 4 (oi := { dst := some 38, op := Op.fieldAddr 23 (Operand.tmp 37) 0, type := 0, pos := "file.go:94", after := #[{ on := 3, ground := Ground.data }, { on := 2, ground := Ground.guard }], guard := some (2, false) }) (v := ?_) (by kernel_rfl) rfl (by rfl) (by kernel_rfl) (by kernel_rfl) (fun _ _ _ h => h) ?_ (by assumption) ?_
              rotate_left
              · (intro w hSw; (try dsimp only at hSw); go_simp; try with_reducible rfl)
              try simp only [Act.put, List.setIfInBounds_toArray, List.set_cons_zero, List.set_cons_succ]
              refine held_take 5 (oi := { dst := some 39, op := Op.load 3 (Operand.tmp 38), type := 3, pos := "file.go:94", after := #[{ on := 4, ground := Ground.data }, { on := 2, ground := Ground.guard }], guard := some (2, false) }) (v := ?_) (by kernel_rfl) rfl (by rfl) (by kernel_rfl) (by kernel_rfl) (fun _ _ _ h => h) ?_ (by assumption) ?_
              rotate_left
              · (intro w hSw; (try dsimp only at hSw); go_simp; try with_reducible rfl)
              try simp only [Act.put, List.setIfInBounds_toArray, List.set_cons_zero, List.set_cons_succ]
              refine held_take 7 (oi := { dst := some 41, op := Op.load 111 (Operand.tmp 5), type := 111, pos := "file.go:94", after := #[{ on := 2, ground := Ground.guard }], guard := some (2, false) }) (v := ?_) (by kernel_rfl) rfl (by rfl) (by kernel_rfl) (by kernel_rfl) (fun _ _ _ h => h) ?_ (by assumption) ?_
              rotate_left
              · (intro w hSw; (try dsimp only at hSw); go_simp; try with_reducible rfl)
              try simp only [Act.put, List.setIfInBounds_toArray, List.set_cons_zero, List.set_cons_succ]
              refine held_one 6 (oi := { dst := some 40, op := Op.call { callee := Callee.value (Operand.func 71), args := #[Operand.tmp 39], argTypes := #[3] }, type := 111, pos := "file.go:94", after := #[{ on := 5, ground := Ground.data }, { on := 2, ground := Ground.chain }, { on := 2, ground := Ground.guard }], guard := some (2, false) }) (by kernel_rfl) rfl (fun K hK => ?_)
              go_simp
              first
                | (go_at_call 71
                   refine (unhide FO).mono ?_
                   rintro e V9 ⟨rfl, v9⟩
                   have e0 := cell_later v9 d0
                   have e1 := cell_later v9 d1
                   have e2 := cell_later v9 d2
                   have U9 := hide (show Below W8.heap.size W8 V9 from ⟨v9.os, v9.tape, v9.output, v9.size, v9.block⟩)
                   clear v9)
              go_wp2_with fail
              refine hK.out _ _ ?_ (fun hHeld => ?_)
              · try dsimp only
                first | exact ⟨d0, d1, d2⟩ | exact ⟨e0, e1, e2⟩
              clear hK K
              try simp only [Act.put, List.setIfInBounds_toArray, List.set_cons_zero, List.set_cons_succ]
              refine held_take 8 (oi := { dst := some 42, op := Op.binOp BinOp.neq 111 (Operand.tmp 40) (Operand.tmp 41) 111, type := 4, pos := "file.go:94", after := #[{ on := 6, ground := Ground.data }, { on := 7, ground := Ground.data }, { on := 2, ground := Ground.guard }], guard := some (2, false) }) (v := ?_) (by kernel_rfl) rfl (by rfl) (by kernel_rfl) (by kernel_rfl) (fun _ _ _ h => h) ?_ (by assumption) ?_
              rotate_left
              · (intro w hSw; (try dsimp only at hSw); go_simp; try with_reducible rfl)
              try simp only [Act.put, List.setIfInBounds_toArray, List.set_cons_zero, List.set_cons_succ]
              refine held_take 9 (oi := { dst := some 43, op := Op.pick (Operand.tmp 36) (Operand.const (Value.bool true)) (Operand.tmp 42), type := 4, pos := "file.go:94", after := #[{ on := 2, ground := Ground.data }, { on := 8, ground := Ground.data }], guard := none }) (v := ?_) (by kernel_rfl) rfl (by rfl) (by kernel_rfl) (by kernel_rfl) (fun _ _ _ h => h) ?_ (by assumption) ?_
              rotate_left
              · (intro w hSw; (try dsimp only at hSw); go_simp; try with_reducible rfl)
              try simp only [Act.put, List.setIfInBounds_toArray, List.set_cons_zero, List.set_cons_succ]
              refine wpAnyH_done (by kernel_rfl) ?_ _
              have YW := hide (later_block ((unhide F8).trans ((unhide U9).mono (unhide F8).size)) (unhide Y5))
              have XW := hide (later_block (unhide U9) (unhide X8))
              obtain ⟨W, hr, gW, hW⟩ := five_sets (unhide YW) (.int .i64 (fi : Int)) (.int .i64 t.t) (.slice sh.va t.v.length sh.vc) (.slice sh.la t.l.length sh.lc) (.slice sh.dp t.d.length sh.dc)
              have HW := hide hW
              have y0 := box_cell hr 0 _ rfl
              have y1' := box_cell hr 1 _ rfl
              have y2' := box_cell hr 2 _ rfl
              have y3' := box_cell hr 3 _ rfl
              have y4' := box_cell hr 4 _ rfl
              have z0 := box_cell (unhide YW) 0 _ rfl
              have z1 := box_cell (unhide YW) 1 _ rfl
              have z2 := box_cell (unhide YW) 2 _ rfl
              have z3 := box_cell (unhide YW) 3 _ rfl
              have z4 := box_cell (unhide YW) 4 _ rfl
              have g0 := mbox_free (unhide YW) 0
              have g1 := mbox_free (unhide YW) 1
              have g2 := mbox_free (unhide YW) 2
              have g3 := mbox_free (unhide YW) 3
              have g4 := mbox_free (unhide YW) 4
              have s0 := box_cell (unhide XW) 0 _ rfl
              have s1 := box_cell (unhide XW) 1 _ rfl
              have s2 := box_cell (unhide XW) 2 _ rfl
              have s3 := box_cell (unhide XW) 3 _ rfl
              have s4 := box_cell (unhide XW) 4 _ rfl
              have FF := hide (show LoadEnd R0 w (.returned (.tuple #[.agg #[.int .i64 (fi : Int), .int .i64 t.t, .slice sh.va t.v.length sh.vc, .slice sh.la t.l.length sh.lc, .slice sh.dp t.d.length sh.dc], .int .i64 0])) W from by
                rw [← unhide LQ]
                have ub := (unhide U5).trans (((unhide F8).trans ((unhide U9).mono (unhide F8).size)).mono (unhide U5).size)
                have hd : w.heap.size = D := unhide DK
                have hs9 := (unhide HS9).later (unhide U9)
                refine ⟨sh, ?_, hs9.far gW (unhide ND), below_grown ub gW (by omega) ub.size⟩
                show _ = Ending.returned (.tuple #[.agg (snRow t sh), .int .i64 0])
                unfold snRow
                rw [hi8])
              clear hW hr gW LQ
              go_wp2_with fail
              rw [unhide HW]
              go_wp2
              refine bodyPost_ret (v := .tuple #[.agg #[.int .i64 (fi : Int), .int .i64 t.t, .slice sh.va t.v.length sh.vc, .slice sh.la t.l.length sh.lc, .slice sh.dp t.d.length sh.dc], .int .i64 0]) (by simp [results, Tryz.results30, go_sem, y0, y1', y2', y3', y4']) rfl ?_
              exact unhide FF
            · have hb2 : (i8 == (fi : Int)) = false := by simp [hq2]
              rw [if_neg (fun q => hq2 q.2)] at LQ
              generalize str (snNm i8.toNat) = nk at *
              refine wp_region_held_drew (S := fun w' => w'.cell? ⟨S8, 0, none⟩ = some (.int .i64 i8) ∧ w'.cell? ⟨E, 0, none⟩ = some (.string sn) ∧ w'.cell? ⟨E, 1, none⟩ = some (.int .i64 (fi : Int))) (by kernel_rfl) ?_ (fun hHeld => ?_)
              · try dsimp only
                first | exact ⟨d0, d1, d2⟩ | exact ⟨e0, e1, e2⟩
              refine held_take 0 (oi := { dst := some 34, op := Op.move (Operand.tmp 7), type := 31, pos := "file.go:94", after := #[], guard := none }) (v := ?_) (by kernel_rfl) rfl (by rfl) (by kernel_rfl) (by kernel_rfl) (fun _ _ _ h => h) ?_ (by assumption) ?_
              rotate_left
              · (intro w hSw; (try dsimp only at hSw); go_simp; try with_reducible rfl)
              try simp only [Act.put, List.setIfInBounds_toArray, List.set_cons_zero, List.set_cons_succ]
              refine held_take 1 (oi := { dst := some 35, op := Op.binOp BinOp.neq 31 (Operand.tmp 34) (Operand.const (Value.int IntKind.i64 0)) 31, type := 4, pos := "file.go:94", after := #[{ on := 0, ground := Ground.data }], guard := none }) (v := ?_) (by kernel_rfl) rfl (by rfl) (by kernel_rfl) (by kernel_rfl) (fun _ _ _ h => h) ?_ (by assumption) ?_
              rotate_left
              · (intro w hSw; (try dsimp only at hSw); go_simp; try with_reducible rfl)
              try simp only [Act.put, List.setIfInBounds_toArray, List.set_cons_zero, List.set_cons_succ]
              refine held_take 2 (oi := { dst := some 36, op := Op.move (Operand.tmp 35), type := 4, pos := "file.go:94", after := #[{ on := 1, ground := Ground.data }], guard := none }) (v := ?_) (by kernel_rfl) rfl (by rfl) (by kernel_rfl) (by kernel_rfl) (fun _ _ _ h => h) ?_ (by assumption) ?_
              rotate_left
              · (intro w hSw; (try dsimp only at hSw); go_simp; try with_reducible rfl)
              try simp only [Act.put, List.setIfInBounds_toArray, List.set_cons_zero, List.set_cons_succ]
              refine held_take 3 (oi := { dst := some 37, op := Op.fieldAddr 29 (Operand.tmp 8) 0, type := 0, pos := "file.go:94", after := #[{ on := 2, ground := Ground.guard }], guard := some (2, false) }) (v := ?_) (by kernel_rfl) rfl (by rfl) (by kernel_rfl) (by kernel_rfl) (fun _ _ _ h => h) ?_ (by assumption) ?_
              rotate_left
              · (intro w hSw; (try dsimp only at hSw); go_simp; try with_reducible rfl)
              try simp only [Act.put, List.setIfInBounds_toArray, List.set_cons_zero, List.set_cons_succ]
              refine held_take 4 (oi := { dst := some 38, op := Op.fieldAddr 23 (Operand.tmp 37) 0, type := 0, pos := "file.go:94", after := #[{ on := 3, ground := Ground.data }, { on := 2, ground := Ground.guard }], guard := some (2, false) }) (v := ?_) (by kernel_rfl) rfl (by rfl) (by kernel_rfl) (by kernel_rfl) (fun _ _ _ h => h) ?_ (by assumption) ?_
              rotate_left
              · (intro w hSw; (try dsimp only at hSw); go_simp; try with_reducible rfl)
              try simp only [Act.put, List.setIfInBounds_toArray, List.set_cons_zero, List.set_cons_succ]
              refine held_take 5 (oi := { dst := some 39, op := Op.load 3 (Operand.tmp 38), type := 3, pos := "file.go:94", after := #[{ on := 4, ground := Ground.data }, { on := 2, ground := Ground.guard }], guard := some (2, false) }) (v := ?_) (by kernel_rfl) rfl (by rfl) (by kernel_rfl) (by kernel_rfl) (fun _ _ _ h => h) ?_ (by assumption) ?_
              rotate_left
              · (intro w hSw; (try dsimp only at hSw); go_simp; try with_reducible rfl)
              try simp only [Act.put, List.setIfInBounds_toArray, List.set_cons_zero, List.set_cons_succ]
              refine held_take 7 (oi := { dst := some 41, op := Op.load 111 (Operand.tmp 5), type := 111, pos := "file.go:94", after := #[{ on := 2, ground := Ground.guard }], guard := some (2, false) }) (v := ?_) (by kernel_rfl) rfl (by rfl) (by kernel_rfl) (by kernel_rfl) (fun _ _ _ h => h) ?_ (by assumption) ?_
              rotate_left
              · (intro w hSw; (try dsimp only at hSw); go_simp; try with_reducible rfl)
              try simp only [Act.put, List.setIfInBounds_toArray, List.set_cons_zero, List.set_cons_succ]
              refine held_one 6 (oi := { dst := some 40, op := Op.call { callee := Callee.value (Operand.func 71), args := #[Operand.tmp 39], argTypes := #[3] }, type := 111, pos := "file.go:94", after := #[{ on := 5, ground := Ground.data }, { on := 2, ground := Ground.chain }, { on := 2, ground := Ground.guard }], guard := some (2, false) }) (by kernel_rfl) rfl (fun K hK => ?_)
              go_simp
              first
                | (go_at_call 71
                   refine (unhide FO).mono ?_
                   rintro e V9 ⟨rfl, v9⟩
                   have e0 := cell_later v9 d0
                   have e1 := cell_later v9 d1
                   have e2 := cell_later v9 d2
                   have U9 := hide (show Below W8.heap.size W8 V9 from ⟨v9.os, v9.tape, v9.output, v9.size, v9.block⟩)
                   clear v9)
              go_wp2_with fail
              refine hK.out _ _ ?_ (fun hHeld => ?_)
              · try dsimp only
                first | exact ⟨d0, d1, d2⟩ | exact ⟨e0, e1, e2⟩
              clear hK K
              try simp only [Act.put, List.setIfInBounds_toArray, List.set_cons_zero, List.set_cons_succ]
              refine held_take 8 (oi := { dst := some 42, op := Op.binOp BinOp.neq 111 (Operand.tmp 40) (Operand.tmp 41) 111, type := 4, pos := "file.go:94", after := #[{ on := 6, ground := Ground.data }, { on := 7, ground := Ground.data }, { on := 2, ground := Ground.guard }], guard := some (2, false) }) (v := ?_) (by kernel_rfl) rfl (by rfl) (by kernel_rfl) (by kernel_rfl) (fun _ _ _ h => h) ?_ (by assumption) ?_
              rotate_left
              · (intro w hSw; (try dsimp only at hSw); go_simp; try with_reducible rfl)
              try simp only [Act.put, List.setIfInBounds_toArray, List.set_cons_zero, List.set_cons_succ]
              refine held_take 9 (oi := { dst := some 43, op := Op.pick (Operand.tmp 36) (Operand.const (Value.bool true)) (Operand.tmp 42), type := 4, pos := "file.go:94", after := #[{ on := 2, ground := Ground.data }, { on := 8, ground := Ground.data }], guard := none }) (v := ?_) (by kernel_rfl) rfl (by rfl) (by kernel_rfl) (by kernel_rfl) (fun _ _ _ h => h) ?_ (by assumption) ?_
              rotate_left
              · (intro w hSw; (try dsimp only at hSw); go_simp; try with_reducible rfl)
              try simp only [Act.put, List.setIfInBounds_toArray, List.set_cons_zero, List.set_cons_succ]
              refine wpAnyH_done (by kernel_rfl) ?_ _
              have F9 := hide ((unhide F8).trans ((unhide U9).mono (unhide F8).size))
              go_wp2
              exact ⟨⟨j + 1, by omega, by go_num, LQ, F9⟩, by simp [intOf]; omega⟩
          · have hb1 : ((str (snNm i8.toNat)).toList == sn.toList) = false := by rw [← hsn, str_eqN]; exact decide_eq_false hq1
            rw [if_neg (fun q => hq1 q.1)] at LQ
            generalize str (snNm i8.toNat) = nk at *
            refine wp_region_held_drew (S := fun w' => w'.cell? ⟨S8, 0, none⟩ = some (.int .i64 i8) ∧ w'.cell? ⟨E, 0, none⟩ = some (.string sn) ∧ w'.cell? ⟨E, 1, none⟩ = some (.int .i64 (fi : Int))) (by kernel_rfl) ?_ (fun hHeld => ?_)
            · try dsimp only
              first | exact ⟨d0, d1, d2⟩ | exact ⟨e0, e1, e2⟩
            refine held_take 0 (oi := { dst := some 34, op := Op.move (Operand.tmp 7), type := 31, pos := "file.go:94", after := #[], guard := none }) (v := ?_) (by kernel_rfl) rfl (by rfl) (by kernel_rfl) (by kernel_rfl) (fun _ _ _ h => h) ?_ (by assumption) ?_
            rotate_left
            · (intro w hSw; (try dsimp only at hSw); go_simp; try with_reducible rfl)
            try simp only [Act.put, List.setIfInBounds_toArray, List.set_cons_zero, List.set_cons_succ]
            refine held_take 1 (oi := { dst := some 35, op := Op.binOp BinOp.neq 31 (Operand.tmp 34) (Operand.const (Value.int IntKind.i64 0)) 31, type := 4, pos := "file.go:94", after := #[{ on := 0, ground := Ground.data }], guard := none }) (v := ?_) (by kernel_rfl) rfl (by rfl) (by kernel_rfl) (by kernel_rfl) (fun _ _ _ h => h) ?_ (by assumption) ?_
            rotate_left
            · (intro w hSw; (try dsimp only at hSw); go_simp; try with_reducible rfl)
            try simp only [Act.put, List.setIfInBounds_toArray, List.set_cons_zero, List.set_cons_succ]
            refine held_take 2 (oi := { dst := some 36, op := Op.move (Operand.tmp 35), type := 4, pos := "file.go:94", after := #[{ on := 1, ground := Ground.data }], guard := none }) (v := ?_) (by kernel_rfl) rfl (by rfl) (by kernel_rfl) (by kernel_rfl) (fun _ _ _ h => h) ?_ (by assumption) ?_
            rotate_left
            · (intro w hSw; (try dsimp only at hSw); go_simp; try with_reducible rfl)
            try simp only [Act.put, List.setIfInBounds_toArray, List.set_cons_zero, List.set_cons_succ]
            refine held_take 3 (oi := { dst := some 37, op := Op.fieldAddr 29 (Operand.tmp 8) 0, type := 0, pos := "file.go:94", after := #[{ on := 2, ground := Ground.guard }], guard := some (2, false) }) (v := ?_) (by kernel_rfl) rfl (by rfl) (by kernel_rfl) (by kernel_rfl) (fun _ _ _ h => h) ?_ (by assumption) ?_
            rotate_left
            · (intro w hSw; (try dsimp only at hSw); go_simp; try with_reducible rfl)
            try simp only [Act.put, List.setIfInBounds_toArray, List.set_cons_zero, List.set_cons_succ]
            refine held_take 4 (oi := { dst := some 38, op := Op.fieldAddr 23 (Operand.tmp 37) 0, type := 0, pos := "file.go:94", after := #[{ on := 3, ground := Ground.data }, { on := 2, ground := Ground.guard }], guard := some (2, false) }) (v := ?_) (by kernel_rfl) rfl (by rfl) (by kernel_rfl) (by kernel_rfl) (fun _ _ _ h => h) ?_ (by assumption) ?_
            rotate_left
            · (intro w hSw; (try dsimp only at hSw); go_simp; try with_reducible rfl)
            try simp only [Act.put, List.setIfInBounds_toArray, List.set_cons_zero, List.set_cons_succ]
            refine held_take 5 (oi := { dst := some 39, op := Op.load 3 (Operand.tmp 38), type := 3, pos := "file.go:94", after := #[{ on := 4, ground := Ground.data }, { on := 2, ground := Ground.guard }], guard := some (2, false) }) (v := ?_) (by kernel_rfl) rfl (by rfl) (by kernel_rfl) (by kernel_rfl) (fun _ _ _ h => h) ?_ (by assumption) ?_
            rotate_left
            · (intro w hSw; (try dsimp only at hSw); go_simp; try with_reducible rfl)
            try simp only [Act.put, List.setIfInBounds_toArray, List.set_cons_zero, List.set_cons_succ]
            refine held_take 7 (oi := { dst := some 41, op := Op.load 111 (Operand.tmp 5), type := 111, pos := "file.go:94", after := #[{ on := 2, ground := Ground.guard }], guard := some (2, false) }) (v := ?_) (by kernel_rfl) rfl (by rfl) (by kernel_rfl) (by kernel_rfl) (fun _ _ _ h => h) ?_ (by assumption) ?_
            rotate_left
            · (intro w hSw; (try dsimp only at hSw); go_simp; try with_reducible rfl)
            try simp only [Act.put, List.setIfInBounds_toArray, List.set_cons_zero, List.set_cons_succ]
            refine held_one 6 (oi := { dst := some 40, op := Op.call { callee := Callee.value (Operand.func 71), args := #[Operand.tmp 39], argTypes := #[3] }, type := 111, pos := "file.go:94", after := #[{ on := 5, ground := Ground.data }, { on := 2, ground := Ground.chain }, { on := 2, ground := Ground.guard }], guard := some (2, false) }) (by kernel_rfl) rfl (fun K hK => ?_)
            go_simp
            first
              | (go_at_call 71
                 refine (unhide FO).mono ?_
                 rintro e V9 ⟨rfl, v9⟩
                 have e0 := cell_later v9 d0
                 have e1 := cell_later v9 d1
                 have e2 := cell_later v9 d2
                 have U9 := hide (show Below W8.heap.size W8 V9 from ⟨v9.os, v9.tape, v9.output, v9.size, v9.block⟩)
                 clear v9)
            go_wp2_with fail
            refine hK.out _ _ ?_ (fun hHeld => ?_)
            · try dsimp only
              first | exact ⟨d0, d1, d2⟩ | exact ⟨e0, e1, e2⟩
            clear hK K
            try simp only [Act.put, List.setIfInBounds_toArray, List.set_cons_zero, List.set_cons_succ]
            refine held_take 8 (oi := { dst := some 42, op := Op.binOp BinOp.neq 111 (Operand.tmp 40) (Operand.tmp 41) 111, type := 4, pos := "file.go:94", after := #[{ on := 6, ground := Ground.data }, { on := 7, ground := Ground.data }, { on := 2, ground := Ground.guard }], guard := some (2, false) }) (v := ?_) (by kernel_rfl) rfl (by rfl) (by kernel_rfl) (by kernel_rfl) (fun _ _ _ h => h) ?_ (by assumption) ?_
            rotate_left
            · (intro w hSw; (try dsimp only at hSw); go_simp; try with_reducible rfl)
            try simp only [Act.put, List.setIfInBounds_toArray, List.set_cons_zero, List.set_cons_succ]
            refine held_take 9 (oi := { dst := some 43, op := Op.pick (Operand.tmp 36) (Operand.const (Value.bool true)) (Operand.tmp 42), type := 4, pos := "file.go:94", after := #[{ on := 2, ground := Ground.data }, { on := 8, ground := Ground.data }], guard := none }) (v := ?_) (by kernel_rfl) rfl (by rfl) (by kernel_rfl) (by kernel_rfl) (fun _ _ _ h => h) ?_ (by assumption) ?_
            rotate_left
            · (intro w hSw; (try dsimp only at hSw); go_simp; try with_reducible rfl)
            try simp only [Act.put, List.setIfInBounds_toArray, List.set_cons_zero, List.set_cons_succ]
            refine wpAnyH_done (by kernel_rfl) ?_ _
            have F9 := hide ((unhide F8).trans ((unhide U9).mono (unhide F8).size))
            go_wp2
            exact ⟨⟨j + 1, by omega, by go_num, LQ, F9⟩, by simp [intOf]; omega⟩
      · rw [if_pos (by rw [hr]; simp)] at LQ
        rw [hr, show ((8 : Nat) : Int) = 8 from rfl]
        clear hbx v7 RC hr hbn
        go_wp2
        exact ⟨⟨j + 1, by omega, by go_num, LQ, F7⟩, by simp [intOf]; omega⟩
    · obtain rfl : j = m := by omega
      have y1 : ¬ (j : Int) < (j : Int) := by omega
      have RN := hide (show R0 = none from by
        rw [← unhide RQ, List.drop_of_length_le (by rw [unhide FM]; exact Nat.le_refl _)]
        rfl)
      obtain ⟨W, hr, gW, hW⟩ := five_sets (unhide YR) (.int .i64 0) (.int .i64 0) (.slice none 0 0) (.slice none 0 0) (.slice none 0 0)
      have HW := hide hW
      have y0 := box_cell hr 0 _ rfl
      have y1' := box_cell hr 1 _ rfl
      have y2' := box_cell hr 2 _ rfl
      have y3' := box_cell hr 3 _ rfl
      have y4' := box_cell hr 4 _ rfl
      have z0 := box_cell (unhide YR) 0 _ rfl
      have z1 := box_cell (unhide YR) 1 _ rfl
      have z2 := box_cell (unhide YR) 2 _ rfl
      have z3 := box_cell (unhide YR) 3 _ rfl
      have z4 := box_cell (unhide YR) 4 _ rfl
      have g0 := mbox_free (unhide YR) 0
      have g1 := mbox_free (unhide YR) 1
      have g2 := mbox_free (unhide YR) 2
      have g3 := mbox_free (unhide YR) 3
      have g4 := mbox_free (unhide YR) 4
      have FF := hide (show LoadEnd R0 w (.returned (.tuple #[.agg #[.int .i64 0, .int .i64 0, .slice none 0 0, .slice none 0 0, .slice none 0 0], .int .i64 8])) W from by
        rw [unhide RN]
        have hd : w.heap.size = D := unhide DK
        exact ⟨⟨none, 0, none, 0, none, 0⟩, rfl, snAt0 W, below_grown (unhide UR) gW (by omega) (unhide UR).size⟩)
      clear hW hr gW
      go_wp2_with fail
      rw [unhide HW]
      go_wp2
      refine bodyPost_ret (v := .tuple #[.agg #[.int .i64 0, .int .i64 0, .slice none 0 0, .slice none 0 0, .slice none 0 0], .int .i64 8]) (by simp [results, Tryz.results30, go_sem, y0, y1', y2', y3', y4']) rfl ?_
      exact unhide FF
end Go.Proofs.YtagncghpfdjkmaaGreatDoor
