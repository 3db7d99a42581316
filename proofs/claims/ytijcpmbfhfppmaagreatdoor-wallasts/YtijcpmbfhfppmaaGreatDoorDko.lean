/- Disk: Names; a name by the document; texts that came in. -/
import Derived.Test.YtijcpmbfhfppmaaGreatDoorDkm
import Derived.SliceStrings
namespace Go.Proofs.YtijcpmbfhfppmaaGreatDoor
open Go.ChangeShapes Go.WideShapes Go.ChangeAt Go.RowKit Go.Maps

/-- One's own row of texts. -/
def OwnN (base : Nat) (w : World) (sp : Option Addr) (c : Nat) (l : List Nm) : Prop := w.ownsRow base 9 1 (.slice sp l.length c) l.length (l.map encStr)
section
variable {base : Nat} {w w' : World} {sp : Option Addr} {c : Nat} {l : List Nm}
theorem OwnN.ofNil (base : Nat) (w : World) : OwnN base w none 0 [] := w.ownsRow_nil base 9 1
theorem OwnN.blk_is (h : OwnN base w sp c l) : ∀ g, blk sp = some g → base ≤ g ∧ g < w.heap.size ∧ ∃ cur : Array Value, w.heap[g]? = some (.cells cur 9 (0, 0)) := by
  intro g hg
  rcases h.2 with ⟨hv, _⟩ | ⟨g1, cap, cur, hv, hb, hh, _⟩
  · simp only [Value.slice.injEq] at hv
    rw [hv.1] at hg
    cases hg
  · simp only [Value.slice.injEq] at hv
    rw [hv.1] at hg
    obtain rfl : g1 = g := by simpa [blk] using hg
    exact ⟨hb, (Array.getElem?_eq_some_iff.1 hh).1, _, hh⟩
theorem OwnN.same (h : OwnN base w sp c l) (hs : ∀ g, blk sp = some g → w'.heap[g]? = w.heap[g]?) : OwnN base w' sp c l := by
  refine ⟨h.1, ?_⟩
  rcases h.2 with hv | ⟨g, cap, cur, hv, hb, hg, r⟩
  · exact .inl hv
  · refine .inr ⟨g, cap, cur, hv, hb, (hs g ?_).trans hg, r⟩
    simp only [Value.slice.injEq] at hv
    rw [hv.1]; rfl
theorem OwnN.later (h : OwnN base w sp c l) (hb : Below w.heap.size w w') : OwnN base w' sp c l := h.same (fun g hg => hb.block g (h.blk_is g hg).2.1)
theorem OwnN.mono {base' : Nat} (h : OwnN base w sp c l) (hb : base' ≤ base) : OwnN base' w sp c l := ⟨h.1, h.2.imp id (fun ⟨g, cap, cur, h1, h2, h3⟩ => ⟨g, cap, cur, h1, Nat.le_trans hb h2, h3⟩)⟩
theorem OwnN.cell (h : OwnN base w sp c l) (i : Nat) (hi : i < l.length) : ∃ g, sp = some ⟨g, 0, none⟩ ∧ w.cell? ⟨g, i, none⟩ = some (.string (str l[i])) := by
  obtain ⟨sp2, c2, hv, hc⟩ := names_shape h rfl
  simp only [Value.slice.injEq] at hv
  obtain ⟨g, hs, _, _, hcell⟩ := hc i hi
  exact ⟨g, by rw [hv.1, hs], hcell w rfl⟩
theorem infoN : (Tryz.prog.info? 9).map (fun i => (i.zero, i.size, i.bytes)) = some (some (.string ByteArray.empty), 1, 16) := by kernel_rfl
theorem run_appendN (hown : OwnN base w sp c l) (B : Nat) (x : Nm) (hB : w.heap[B]? = some (.cells #[.string (str x)] 9 (0, 0))) (hn : (l.length + 1) * 16 ≤ 140737488355328) (hbase : base ≤ w.heap.size) (ty : TypeId) :
    ∃ sp' c' w', (Builtin.append_ #[74, 74] ty #[.slice sp l.length c, .slice (some ⟨B, 0, none⟩) 1 1]).run Tryz.prog w = .ok (.slice sp' (l.length + 1) c') w' ∧ OwnN base w' sp' c' (l ++ [x]) ∧ Grew w sp w' sp' := by
  obtain ⟨i0, hi, hz0, hz1, hz2⟩ := info_parts infoN
  obtain ⟨v', w', hrun, h1, h2, _, h5⟩ := run_append_own_at (P := Tryz.prog) w base 74 ty 9 i0 _ 1 16 Tryz.underlying74 hi hz0 hz1 hz2 rfl (by omega) _ _ _ hown ⟨B, 0, none⟩ 1 1 [.string (str x)] rfl
    (fun j u hu => by have := World.news_of_block hB j u; simp only at this; exact this hu) (by intro u hu; simp at hu; subst hu; rfl) (by simp only [maxLen]; omega) (by omega) hbase
  have hv : ∃ sp' c', v' = .slice sp' (l.length + 1) c' := by
    rcases h1.2 with ⟨hv, h0⟩ | ⟨g, cap, cur, hv, _⟩
    · omega
    · exact ⟨_, _, hv⟩
  obtain ⟨sp', c', rfl⟩ := hv
  rw [ownBlock_slice] at h2
  rw [ownBlock_slice, ownBlock_slice] at h5
  refine ⟨sp', c', w', hrun, ?_, ⟨h2, fun g hg => ?_⟩⟩
  · show w'.ownsRow base 9 1 (.slice sp' (l ++ [x]).length c') (l ++ [x]).length ((l ++ [x]).map encStr)
    rw [List.map_append, List.length_append]
    exact h1
  · rcases h5 with h5 | h5
    · exact .inl (h5.symm.trans hg)
    · rw [h5] at hg
      exact .inr (Nat.le_of_eq (Option.some.inj hg))
end
theorem wpList_appendN {w : World} {ops : Array Oper} {rest : List Oper} {o : Oper} {a : Act} {Q : Exit → Act → World → Prop} (hgd : o.guard = none) (s x : Operand)
    (ho : o.op = .call { callee := .builtin .append, args := #[s, x], argTypes := #[74, 74] })
    (base : Nat) (sp : Option Addr) (n c : Nat) (l : List Nm) (hs : a.eval s = .slice sp n c) (hn : l.length = n) (hown : OwnN base w sp c l) (B : Nat) (t : Nm) (hx : a.eval x = .slice (some ⟨B, 0, none⟩) 1 1)
    (hB : w.heap[B]? = some (.cells #[.string (str t)] 9 (0, 0))) (hsz : (n + 1) * 16 ≤ 140737488355328) (hbase : base ≤ w.heap.size)
    (hk : ∀ sp' c' w', OwnN base w' sp' c' (l ++ [t]) → Grew w sp w' sp' → wpList Tryz.prog ops Q rest (a.put o.dst (.slice sp' (n + 1) c')) w') :
    wpList Tryz.prog ops Q (o :: rest) a w := by
  subst hn
  refine wpList_plain hgd fun K hK => ?_
  obtain ⟨sp', c', w', hrun, h1, h2⟩ := run_appendN hown B t hB hsz hbase o.type
  unfold Oper.wp
  simp [execOp, ho, resolve, invoke, builtin, hs, hx, hrun, Result.andThen]
  exact hK _ _ (hk sp' c' w' h1 h2)
theorem enter_names (c : Array Value) (w : World) : (callFunc 82 c).run Tryz.prog w = .ok (.enter 82 c) w := by
  simp [callFunc, go_sem, Tryz.func82]
  rw [if_neg (by decide +kernel), if_neg (fun h => by cases h)]
set_option maxRecDepth 20000 in
set_option maxHeartbeats 4000000 in
/-- The variable is not in the row. -/
theorem names1_calls (base : Nat) (x : Nm) (F V : Nat) (sp : Option Addr) (n c : Nat) (l : List Nm) (w : World) (hn : l.length = n) (hV : w.heap[V]? = some (.cells #[.slice sp n c] 74 (0, 0))) (ho : OwnN base w sp c l) (hl : n ≤ 1000) (hbs : base ≤ w.heap.size) :
    Calls Tryz.prog 82 #[.string (str x), .pointer (some ⟨F, 0, none⟩), .pointer (some ⟨V, 0, none⟩)] w fun e w' => e = .returned (.tuple #[]) ∧ ∃ sp' c', w'.heap[V]? = some (.cells #[.slice sp' (n + 1) c'] 74 (0, 0)) ∧ OwnN base w' sp' c' (l ++ [x]) ∧ (∀ g, g < w.heap.size → g ≠ V → blk sp ≠ some g → w'.heap[g]? = w.heap[g]?) ∧ w'.os = w.os ∧ w'.tape = w.tape ∧ w'.output = w.output ∧ w.heap.size ≤ w'.heap.size ∧ (∀ g, blk sp' = some g → blk sp = some g ∨ w.heap.size ≤ g) := by
  have c0 := fcell hV 0 (.slice sp n c) rfl
  have A1 := hide (show Below w.heap.size w (w.alloc (.cells #[.string (str x)] 9)) from (Below.refl _ _).alloc (Nat.le_refl _) _)
  have O1 := hide (ho.later (unhide A1))
  have HV := hide hV
  have HO := hide ho
  have HN := hide hn
  have HB := hide hbs
  clear hV ho hn hbs
  go_enter Tryz.func82, Tryz.ntmps82
  go_wp2_with (at_builtin; refine unhide ?_)
  refine hide ?_
  refine wpList_appendN rfl (.tmp 5) (.tmp 7) rfl base sp n c l rfl (unhide HN) (unhide O1) w.heap.size x rfl (heap_new w _) (by omega) (Nat.le_trans (unhide HB) (unhide A1).size) ?_
  intro sp2 c2 W2 ho2 hg2
  have hVn : blk sp ≠ some V := fun e => by
    obtain ⟨_, _, cur, hc⟩ := (unhide HO).blk_is V e
    rw [unhide HV] at hc; simp at hc
  have hV2 : W2.heap[V]? = some (.cells #[.slice sp n c] 74 (0, 0)) := by
    have hlt := (Array.getElem?_eq_some_iff.1 (unhide HV)).1
    rw [hg2.grown.block V (Nat.lt_of_lt_of_le hlt (unhide A1).size) (fun e => hVn e.symm), (unhide A1).block V hlt]
    exact unhide HV
  have d0 := fcell hV2 0 (.slice sp n c) rfl
  have z0 := ffree hV2 0
  have HV2 := hide hV2
  have HG2 := hide hg2
  have HO2 := hide ho2
  have HVN := hide hVn
  clear hV2 hg2 ho2 hVn
  go_wp2
  go_end0
  have hs := heap_setCell_same W2 V 0 #[.slice sp n c] 74 (.slice sp2 (n + 1) c2) (unhide HV2)
  refine ⟨rfl, sp2, c2, hs, (unhide HO2).same (fun g hg => heap_setCell_other _ ⟨V, 0, none⟩ g _ (fun e => ?_)), fun g h1 h2 h3 => ?_, (unhide HG2).grown.os, (unhide HG2).grown.tape, (unhide HG2).grown.output, ?_, fun g hg => ?_⟩
  · obtain ⟨_, _, cur, hc⟩ := (unhide HO2).blk_is g hg
    have e2 : g = V := e
    rw [e2, unhide HV2] at hc
    simp at hc
  · rw [heap_setCell_other _ ⟨V, 0, none⟩ g _ h2, (unhide HG2).grown.block g (Nat.lt_of_lt_of_le h1 (unhide A1).size) (fun e => h3 e.symm)]
    exact (unhide A1).block g h1
  · have h1 := (unhide HG2).grown.size
    have h2 := (unhide A1).size
    simp only [World.setCell] at *
    simp
    omega
  · rcases (unhide HG2).lies g hg with h1 | h1
    · exact .inl h1
    · exact .inr (Nat.le_trans (unhide A1).size h1)
set_option maxRecDepth 20000 in
theorem dnames_calls {base d M room N : Nat} {w : World} {fs : List Fe} (h : DiskAt base w d M room N fs) : Calls Tryz.prog 38 #[.pointer (some ⟨d, 0, none⟩)] w fun e w' => ∃ sp n c, e = .returned (.slice sp n c) ∧ fs.length = n ∧ OwnN w.heap.size w' sp c (fs.map (·.1)) ∧ Below w.heap.size w w' := by
  have b0 : Below w.heap.size w (w.alloc (.cells #[.slice none 0 0] 74)) := (Below.refl _ _).alloc (Nat.le_refl _) _
  have hW : (w.alloc (.cells #[.slice none 0 0] 74)).heap.size = w.heap.size + 1 := by simp
  have hU0 := heap_new w (.cells #[.slice none 0 0] 74)
  have EC := hide (each_calls base d M room N (w.alloc (.cells #[.slice none 0 0] 74)) fs (h.later b0) 82 #[.pointer (some ⟨w.heap.size, 0, none⟩)] enter_names
    (fun w' => ∃ sp c, w'.heap[w.heap.size]? = some (.cells #[.slice sp fs.length c] 74 (0, 0)) ∧ OwnN w.heap.size w' sp c (fs.map (·.1)) ∧ Below w.heap.size w w') (fun W0 hb => by
      have hbW : Below w.heap.size w W0 := b0.trans (hb.mono b0.size)
      have hW0 := hb.size
      refine ⟨fun i w1 => ∃ sp c, w1.heap[w.heap.size]? = some (.cells #[.slice sp i c] 74 (0, 0)) ∧ i ≤ fs.length ∧ OwnN W0.heap.size w1 sp c ((fs.map (·.1)).take i) ∧ (∀ g, g < W0.heap.size → g ≠ w.heap.size → w1.heap[g]? = W0.heap[g]?) ∧ w1.os = W0.os ∧ w1.tape = W0.tape ∧ w1.output = W0.output ∧ W0.heap.size ≤ w1.heap.size, ?_, ?_, ?_, ?_⟩
      · refine ⟨none, 0, ?_, by omega, OwnN.ofNil _ _, fun _ _ _ => rfl, rfl, rfl, rfl, Nat.le_refl _⟩
        rw [hb.block w.heap.size (by omega)]
        exact hU0
      · rintro i w1 ⟨sp, c, _, _, _, hs, _⟩ g hg1 hg2
        exact hs g hg2 (by omega)
      · rintro i hi w1 ⟨sp, c, hV, hil, ho, hs, hos, hta, hou, hsz⟩
        have hss : ∀ g, g < w.heap.size → w1.heap[g]? = w.heap[g]? := fun g hlt => (hs g (Nat.lt_of_lt_of_le hlt hbW.size) (by omega)).trans (hbW.block g hlt)
        have h1 := h.still hss
        refine ⟨h1.c1, h1.lookAt i hi, ?_⟩
        have h16 := h.few
        refine (names1_calls W0.heap.size fs[i].1 fs[i].2.1 w.heap.size sp i c ((fs.map (·.1)).take i) w1 (by simp; omega) hV ho (by omega) hsz).mono ?_
        rintro e w2 ⟨rfl, sp', c', hV2, ho2, hs2, hos2, hta2, hou2, hsz2, hl2⟩
        refine ⟨rfl, sp', c', hV2, by omega, ?_, fun g h2 h3 => (hs2 g (Nat.lt_of_lt_of_le h2 hsz) h3 (fun e => ?_)).trans (hs g h2 h3), hos2.trans hos, hta2.trans hta, hou2.trans hou, Nat.le_trans hsz hsz2⟩
        · rw [List.take_succ_eq_append_getElem (by simpa using hi), List.getElem_map]
          exact ho2
        · have := (ho.blk_is g e).1
          omega
      · rintro w1 ⟨sp, c, hV, _, ho, hs, hos, hta, hou, hsz⟩
        rw [List.take_of_length_le (by simp)] at ho
        exact ⟨sp, c, hV, ho.mono hbW.size, hos.trans hbW.os, hta.trans hbW.tape, hou.trans hbW.output, Nat.le_trans hbW.size hsz, fun g hg => (hs g (Nat.lt_of_lt_of_le hg hbW.size) (by omega)).trans (hbW.block g hg)⟩))
  clear h b0 hW hU0
  go_enter Tryz.func38, Tryz.ntmps38
  go_wp2_with (go_at_call 72; refine (unhide EC).mono ?_; rintro e W ⟨rfl, sp, c, hU, hO, hB⟩; have c0 := fcell hU 0 _ rfl; have HB := hide hB; have HO := hide hO; clear hU hB hO)
  go_ret
  exact ⟨sp, _, c, rfl, rfl, unhide HO, unhide HB⟩
theorem vnames_calls {base d M room N : Nat} {w : World} {ss : Ds} (h : Dv base w d M room N ss) : Calls Tryz.prog 38 #[.pointer (some ⟨d, 0, none⟩)] w fun e w' => ∃ sp n c, e = .returned (.slice sp n c) ∧ ss.length = n ∧ OwnN w.heap.size w' sp c (ss.map (·.1)) ∧ Below w.heap.size w w' := by
  obtain ⟨fs, h1, rfl⟩ := h.at_
  refine (dnames_calls h1).mono ?_
  rintro e W ⟨sp, n, c, rfl, hn, ho, hb⟩
  refine ⟨sp, n, c, rfl, by simpa [sps] using hn, ?_, hb⟩
  have e1 : (sps fs).map (·.1) = fs.map (·.1) := by simp [sps]
  rw [e1]
  exact ho
/-- Texts as they lie in memory. -/
structure TextsAt (w : World) (a : Option Addr) (l : List ByteArray) : Prop where
  sz : ∀ s ∈ l, s.size ≤ maxLen
  cell : ∀ i (hi : i < l.length), ∃ b off, a = some ⟨b, off, none⟩ ∧ w.cell? ⟨b, off + i, none⟩ = some (.string l[i])
theorem TextsAt.later {w w' : World} {a : Option Addr} {l : List ByteArray} (h : TextsAt w a l) (hb : Below w.heap.size w w') : TextsAt w' a l :=
  ⟨h.sz, fun i hi => by obtain ⟨b, off, e, hc⟩ := h.cell i hi; exact ⟨b, off, e, cell_later hb hc⟩⟩
theorem texts_arg {H : Type} {enc : TypeId × Value → H} {W : World} {a : Option Addr} {len cap : Nat} {d : DataW H} {p : List MemPlace}
    (h : DataW.Trod enc Tryz.prog W 0 (fun _ => true) true 74 (.slice a len cap) d p) :
    ∃ l : List ByteArray, l.length = len ∧ len ≤ maxLen ∧ TextsAt W a l := by
  obtain ⟨fuel, hf⟩ := h
  rcases open_strings Tryz.underlying74 Tryz.underlying9 (by kernel_rfl) hf with ⟨hcs, hx⟩ | ⟨x, l, c, zs, hcs, _, hl, hm, hz, hx, hcell, hwz⟩
  · simp [Value.cells] at hcs
    obtain ⟨rfl, rfl, rfl⟩ := hcs
    exact ⟨[], rfl, by simp [maxLen], ⟨by simp, by simp⟩⟩
  · simp [Value.cells] at hcs
    obtain ⟨rfl, rfl, rfl⟩ := hcs
    have hz' : zs.length = cap := by simpa using hz
    refine ⟨zs.take len, by rw [List.length_take]; omega, by omega, ⟨fun s hs => hwz s (List.mem_of_mem_take hs), fun i hi => ?_⟩⟩
    rw [List.length_take] at hi
    have hiz : i < zs.length := by omega
    have hc := hcell i hiz
    obtain ⟨b, off, spot⟩ := x
    have hspot : spot = none := by simpa [Addr.add] using World.cell?_spot (hcell 0 (by omega))
    subst hspot
    refine ⟨b, off, rfl, ?_⟩
    rw [Addr.add_lit] at hc
    rw [hc, List.getElem_take, List.getD_eq_getElem?_getD, List.getElem?_eq_getElem hiz]
    rfl
set_option maxRecDepth 20000 in
set_option maxHeartbeats 40000000 in
theorem named_calls (s : ByteArray) (w : World) (hs : s.size ≤ maxLen) : Calls Tryz.prog 154 #[.string s] w fun e w' => e = .returned (.bool (nameL s.data.toList)) ∧ w' = w := by
  have hlen : s.data.toList.length = s.size := by simp
  simp only [maxLen] at hs
  go_enter Tryz.func154, Tryz.ntmps154
  go_wp2_with fail
  go_loopw [3] (fun i wr => ∃ j : Nat, j ≤ s.size ∧ i = .int .i64 (j : Int) ∧ Hid ((s.data.toList.take j).all (fun b => stands b.toNat) = true) ∧ Hid (wr = w)) (fun i _ => s.size - (intOf i).toNat)
  case atStart => exact ⟨0, by omega, rfl, by exact hide (by simp), hide rfl⟩
  case round =>
    obtain ⟨j, hj, rfl, HA, HW⟩ := hrel
    have hW := unhide HW
    subst hW
    by_cases hjn : j < s.size
    · have hj0 : (0 : Int) ≤ (j : Int) := by omega
      have hj1 : (j : Int) < (s.size : Int) := by omega
      obtain ⟨b, hb⟩ : ∃ b : Nat, s[j].toNat = b := ⟨_, rfl⟩
      have hjl : j < s.data.toList.length := by omega
      have hsj : s.data.toList[j] = s[j] := rfl
      have HY := hide (show stands b = true → (s.data.toList.take (j + 1)).all (fun b => stands b.toNat) = true from fun hp => by
        rw [List.take_succ_eq_append_getElem hjl, List.all_append, unhide HA, hsj]; simp [hb, hp])
      have HN := hide (show stands b = false → nameL s.data.toList = false from fun hp => by
        have : s.data.toList.all (fun b => stands b.toNat) = false := by
          rw [List.all_eq_false]; exact ⟨s[j], hsj ▸ List.getElem_mem hjl, by simp [hb, hp]⟩
        simp [nameL, this])
      clear hsj
      rcases (show (97 ≤ b ∧ b ≤ 122) ∨ (48 ≤ b ∧ b ≤ 57) ∨ b = 45 ∨ b = 46 ∨ (b < 48 ∧ b ≠ 45 ∧ b ≠ 46) ∨ (57 < b ∧ b < 97) ∨ 122 < b by omega) with ⟨x1, x2⟩ | ⟨x1, x2⟩ | rfl | rfl | ⟨x1, x2, x3⟩ | ⟨x1, x2⟩ | x1
      · have y1 : (97 : Int) ≤ (b : Int) := by omega
        have y2 : (b : Int) ≤ 122 := by omega
        go_wp2
        exact ⟨⟨j + 1, by omega, by go_num, unhide HY (by simp [stands]; try omega), by first | exact hide trivial | exact hide rfl⟩, by simp [intOf]; omega⟩
      · have y1 : ¬ (97 : Int) ≤ (b : Int) := by omega
        have y2 : (48 : Int) ≤ (b : Int) := by omega
        have y3 : (b : Int) ≤ 57 := by omega
        go_wp2
        exact ⟨⟨j + 1, by omega, by go_num, unhide HY (by simp [stands]; try omega), by first | exact hide trivial | exact hide rfl⟩, by simp [intOf]; omega⟩
      · go_wp2
        exact ⟨⟨j + 1, by omega, by go_num, unhide HY (by simp [stands]; try omega), by first | exact hide trivial | exact hide rfl⟩, by simp [intOf]; omega⟩
      · go_wp2
        exact ⟨⟨j + 1, by omega, by go_num, unhide HY (by simp [stands]; try omega), by first | exact hide trivial | exact hide rfl⟩, by simp [intOf]; omega⟩
      · have y1 : ¬ (97 : Int) ≤ (b : Int) := by omega
        have y2 : ¬ (48 : Int) ≤ (b : Int) := by omega
        have y3 : ¬ (b : Int) = 45 := by omega
        have z45 : ((b : Int) != 45) = true := by simp; omega
        have y4 : ¬ (b : Int) = 46 := by omega
        have z46 : ((b : Int) != 46) = true := by simp; omega
        go_wp2
        go_ret
        exact ⟨by rw [unhide HN (by simp [stands]; omega)]; rfl, rfl⟩
      · have y1 : ¬ (97 : Int) ≤ (b : Int) := by omega
        have y2 : (48 : Int) ≤ (b : Int) := by omega
        have y3 : ¬ (b : Int) ≤ 57 := by omega
        have y4 : ¬ (b : Int) = 45 := by omega
        have z45 : ((b : Int) != 45) = true := by simp; omega
        have y5 : ¬ (b : Int) = 46 := by omega
        have z46 : ((b : Int) != 46) = true := by simp; omega
        go_wp2
        go_ret
        exact ⟨by rw [unhide HN (by simp [stands]; omega)]; rfl, rfl⟩
      · have y1 : (97 : Int) ≤ (b : Int) := by omega
        have y2 : (48 : Int) ≤ (b : Int) := by omega
        have y3 : ¬ (b : Int) ≤ 57 := by omega
        have y4 : ¬ (b : Int) = 45 := by omega
        have z45 : ((b : Int) != 45) = true := by simp; omega
        have y5 : ¬ (b : Int) = 46 := by omega
        have z46 : ((b : Int) != 46) = true := by simp; omega
        have y6 : ¬ (b : Int) ≤ 122 := by omega
        go_wp2
        go_ret
        exact ⟨by rw [unhide HN (by simp [stands]; omega)]; rfl, rfl⟩
    · have h3 := unhide HA
      rw [List.take_of_length_le (by omega)] at h3
      have HN := hide (show nameL s.data.toList = (decide (1 ≤ s.size) && decide (s.size ≤ 64)) by
        simp only [nameL, h3, Bool.and_true, hlen])
      have hj2 : ¬ (j : Int) < (s.size : Int) := by omega
      clear h3
      by_cases g1 : 1 ≤ s.size
      · have g2 : (1 : Int) ≤ (s.size : Int) := by omega
        by_cases g3 : s.size ≤ 64
        · have g4 : (s.size : Int) ≤ 64 := by omega
          go_wp2
          go_ret
          exact ⟨by rw [unhide HN]; simp [g1, g3], rfl⟩
        · have g4 : ¬ (s.size : Int) ≤ 64 := by omega
          go_wp2
          go_ret
          exact ⟨by rw [unhide HN]; simp [g3], rfl⟩
      · have g2 : ¬ (1 : Int) ≤ (s.size : Int) := by omega
        go_wp2
        go_ret
        exact ⟨by rw [unhide HN]; simp [g1], rfl⟩
end Go.Proofs.YtijcpmbfhfppmaaGreatDoor
