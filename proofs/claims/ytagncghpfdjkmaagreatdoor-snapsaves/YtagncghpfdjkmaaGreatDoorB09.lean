/- Disk: Names; a name by the document; texts that came in. -/
import Derived.Test.YtagncghpfdjkmaaGreatDoorB08
import Derived.SliceStrings
import Derived.RegionTactic
import Derived.Test.YtagncghpfdjkmaaGreatDoorB02
section
namespace Go.Proofs.YtagncghpfdjkmaaGreatDoor
open Go.ChangeShapes Go.WideShapes Go.ChangeAt Go.RowKit Go.Maps

/-- One's own row of texts. -/
def OwnN (base : Nat) (w : World) (sp : Option Addr) (c : Nat) (l : List Nm) : Prop := w.ownsRow base 9 1 (.slice sp l.length c) l.length (l.map encStr)
section
variable {base : Nat} {w w' : World} {sp : Option Addr} {c : Nat} {l : List Nm}
theorem OwnN.ofNil (base : Nat) (w : World) : OwnN base w none 0 [] := w.ownsRow_nil base 9 1
theorem OwnN.blk_is (h : OwnN base w sp c l) : ∀ g, blk sp = some g → base ≤ g ∧ g < w.heap.size ∧ ∃ cur : Array Value, w.heap[g]? = some (.cells cur 9 (0, 0)) := by
  intro g hg
  rcases h.2 with ⟨hv, _⟩ | ⟨g1, cap, cur, hv, hb, hh, _⟩
  · simp only [Value.slice.injEq] at hv
    rw [hv.1] at hg
    cases hg
  · simp only [Value.slice.injEq] at hv
    rw [hv.1] at hg
    obtain rfl : g1 = g := by simpa [blk] using hg
    exact ⟨hb, (Array.getElem?_eq_some_iff.1 hh).1, _, hh⟩
theorem OwnN.same (h : OwnN base w sp c l) (hs : ∀ g, blk sp = some g → w'.heap[g]? = w.heap[g]?) : OwnN base w' sp c l := by
  refine ⟨h.1, ?_⟩
  rcases h.2 with hv | ⟨g, cap, cur, hv, hb, hg, r⟩
  · exact .inl hv
  · refine .inr ⟨g, cap, cur, hv, hb, (hs g ?_).trans hg, r⟩
    simp only [Value.slice.injEq] at hv
    rw [hv.1]; rfl
theorem OwnN.later (h : OwnN base w sp c l) (hb : Below w.heap.size w w') : OwnN base w' sp c l := h.same (fun g hg => hb.block g (h.blk_is g hg).2.1)
theorem OwnN.mono {base' : Nat} (h : OwnN base w sp c l) (hb : base' ≤ base) : OwnN base' w sp c l := ⟨h.1, h.2.imp id (fun ⟨g, cap, cur, h1, h2, h3⟩ => ⟨g, cap, cur, h1, Nat.le_trans hb h2, h3⟩)⟩
theorem OwnN.cell (h : OwnN base w sp c l) (i : Nat) (hi : i < l.length) : ∃ g, sp = some ⟨g, 0, none⟩ ∧ w.cell? ⟨g, i, none⟩ = some (.string (str l[i])) := by
  obtain ⟨sp2, c2, hv, hc⟩ := names_shape h rfl
  simp only [Value.slice.injEq] at hv
  obtain ⟨g, hs, _, _, hcell⟩ := hc i hi
  exact ⟨g, by rw [hv.1, hs], hcell w rfl⟩
theorem infoN : (Tryz.prog.info? 9).map (fun i => (i.zero, i.size, i.bytes)) = some (some (.string ByteArray.empty), 1, 16) := by kernel_rfl
theorem run_appendN (hown : OwnN base w sp c l) (B : Nat) (x : Nm) (hB : w.heap[B]? = some (.cells #[.string (str x)] 9 (0, 0))) (hn : (l.length + 1) * 16 ≤ 140737488355328) (hbase : base ≤ w.heap.size) (ty : TypeId) :
    ∃ sp' c' w', (Builtin.append_ #[58, 58] ty #[.slice sp l.length c, .slice (some ⟨B, 0, none⟩) 1 1]).run Tryz.prog w = .ok (.slice sp' (l.length + 1) c') w' ∧ OwnN base w' sp' c' (l ++ [x]) ∧ Grew w sp w' sp' := by
  obtain ⟨i0, hi, hz0, hz1, hz2⟩ := info_parts infoN
  obtain ⟨v', w', hrun, h1, h2, _, h5⟩ := run_append_own_at (P := Tryz.prog) w base 58 ty 9 i0 _ 1 16 Tryz.underlying58 hi hz0 hz1 hz2 rfl (by omega) _ _ _ hown ⟨B, 0, none⟩ 1 1 [.string (str x)] rfl
    (fun j u hu => by have := World.news_of_block hB j u; simp only at this; exact this hu) (by intro u hu; simp at hu; subst hu; rfl) (by simp only [maxLen]; omega) (by omega) hbase
  have hv : ∃ sp' c', v' = .slice sp' (l.length + 1) c' := by
    rcases h1.2 with ⟨hv, h0⟩ | ⟨g, cap, cur, hv, _⟩
    · omega
    · exact ⟨_, _, hv⟩
  obtain ⟨sp', c', rfl⟩ := hv
  rw [ownBlock_slice] at h2
  rw [ownBlock_slice, ownBlock_slice] at h5
  refine ⟨sp', c', w', hrun, ?_, ⟨h2, fun g hg => ?_⟩⟩
  · show w'.ownsRow base 9 1 (.slice sp' (l ++ [x]).length c') (l ++ [x]).length ((l ++ [x]).map encStr)
    rw [List.map_append, List.length_append]
    exact h1
  · rcases h5 with h5 | h5
    · exact .inl (h5.symm.trans hg)
    · rw [h5] at hg
      exact .inr (Nat.le_of_eq (Option.some.inj hg))
end
theorem wpList_appendN {w : World} {ops : Array Oper} {rest : List Oper} {o : Oper} {a : Act} {Q : Exit → Act → World → Prop} (hgd : o.guard = none) (s x : Operand)
    (ho : o.op = .call { callee := .builtin .append, args := #[s, x], argTypes := #[58, 58] })
    (base : Nat) (sp : Option Addr) (n c : Nat) (l : List Nm) (hs : a.eval s = .slice sp n c) (hn : l.length = n) (hown : OwnN base w sp c l) (B : Nat) (t : Nm) (hx : a.eval x = .slice (some ⟨B, 0, none⟩) 1 1)
    (hB : w.heap[B]? = some (.cells #[.string (str t)] 9 (0, 0))) (hsz : (n + 1) * 16 ≤ 140737488355328) (hbase : base ≤ w.heap.size)
    (hk : ∀ sp' c' w', OwnN base w' sp' c' (l ++ [t]) → Grew w sp w' sp' → wpList Tryz.prog ops Q rest (a.put o.dst (.slice sp' (n + 1) c')) w') :
    wpList Tryz.prog ops Q (o :: rest) a w := by
  subst hn
  refine wpList_plain hgd fun K hK => ?_
  obtain ⟨sp', c', w', hrun, h1, h2⟩ := run_appendN hown B t hB hsz hbase o.type
  unfold Oper.wp
  simp [execOp, ho, resolve, invoke, builtin, hs, hx, hrun, Result.andThen]
  exact hK _ _ (hk sp' c' w' h1 h2)
theorem enter_names (c : Array Value) (w : World) : (callFunc 90 c).run Tryz.prog w = .ok (.enter 90 c) w := by
  simp [callFunc, go_sem, Tryz.func90]
  rw [if_neg (by decide +kernel), if_neg (fun h => by cases h)]
set_option maxRecDepth 20000 in
set_option maxHeartbeats 4000000 in
/-- The variable is not in the row. -/
theorem names1_calls (base : Nat) (x : Nm) (F V : Nat) (sp : Option Addr) (n c : Nat) (l : List Nm) (w : World) (hn : l.length = n) (hV : w.heap[V]? = some (.cells #[.slice sp n c] 58 (0, 0))) (ho : OwnN base w sp c l) (hl : n ≤ 1000) (hbs : base ≤ w.heap.size) :
    Calls Tryz.prog 90 #[.string (str x), .pointer (some ⟨F, 0, none⟩), .pointer (some ⟨V, 0, none⟩)] w fun e w' => e = .returned (.tuple #[]) ∧ ∃ sp' c', w'.heap[V]? = some (.cells #[.slice sp' (n + 1) c'] 58 (0, 0)) ∧ OwnN base w' sp' c' (l ++ [x]) ∧ (∀ g, g < w.heap.size → g ≠ V → blk sp ≠ some g → w'.heap[g]? = w.heap[g]?) ∧ w'.os = w.os ∧ w'.tape = w.tape ∧ w'.output = w.output ∧ w.heap.size ≤ w'.heap.size ∧ (∀ g, blk sp' = some g → blk sp = some g ∨ w.heap.size ≤ g) := by
  have c0 := fcell hV 0 (.slice sp n c) rfl
  have A1 := hide (show Below w.heap.size w (w.alloc (.cells #[.string (str x)] 9)) from (Below.refl _ _).alloc (Nat.le_refl _) _)
  have O1 := hide (ho.later (unhide A1))
  have HV := hide hV
  have HO := hide ho
  have HN := hide hn
  have HB := hide hbs
  clear hV ho hn hbs
  go_enter Tryz.func90, Tryz.ntmps90
  go_wp2_with (at_builtin; refine unhide ?_)
  refine hide ?_
  refine wpList_appendN rfl (.tmp 5) (.tmp 7) rfl base sp n c l rfl (unhide HN) (unhide O1) w.heap.size x rfl (heap_new w _) (by omega) (Nat.le_trans (unhide HB) (unhide A1).size) ?_
  intro sp2 c2 W2 ho2 hg2
  have hVn : blk sp ≠ some V := fun e => by
    obtain ⟨_, _, cur, hc⟩ := (unhide HO).blk_is V e
    rw [unhide HV] at hc; simp at hc
  have hV2 : W2.heap[V]? = some (.cells #[.slice sp n c] 58 (0, 0)) := by
    have hlt := (Array.getElem?_eq_some_iff.1 (unhide HV)).1
    rw [hg2.grown.block V (Nat.lt_of_lt_of_le hlt (unhide A1).size) (fun e => hVn e.symm), (unhide A1).block V hlt]
    exact unhide HV
  have d0 := fcell hV2 0 (.slice sp n c) rfl
  have z0 := ffree hV2 0
  have HV2 := hide hV2
  have HG2 := hide hg2
  have HO2 := hide ho2
  have HVN := hide hVn
  clear hV2 hg2 ho2 hVn
  go_wp2
  go_end0
  have hs := heap_setCell_same W2 V 0 #[.slice sp n c] 58 (.slice sp2 (n + 1) c2) (unhide HV2)
  refine ⟨rfl, sp2, c2, hs, (unhide HO2).same (fun g hg => heap_setCell_other _ ⟨V, 0, none⟩ g _ (fun e => ?_)), fun g h1 h2 h3 => ?_, (unhide HG2).grown.os, (unhide HG2).grown.tape, (unhide HG2).grown.output, ?_, fun g hg => ?_⟩
  · obtain ⟨_, _, cur, hc⟩ := (unhide HO2).blk_is g hg
    have e2 : g = V := e
    rw [e2, unhide HV2] at hc
    simp at hc
  · rw [heap_setCell_other _ ⟨V, 0, none⟩ g _ h2, (unhide HG2).grown.block g (Nat.lt_of_lt_of_le h1 (unhide A1).size) (fun e => h3 e.symm)]
    exact (unhide A1).block g h1
  · have h1 := (unhide HG2).grown.size
    have h2 := (unhide A1).size
    simp only [World.setCell] at *
    simp
    omega
  · rcases (unhide HG2).lies g hg with h1 | h1
    · exact .inl h1
    · exact .inr (Nat.le_trans (unhide A1).size h1)
set_option maxRecDepth 20000 in
theorem dnames_calls {base d M room N : Nat} {w : World} {fs : List Fe} (h : DiskAt base w d M room N fs) : Calls Tryz.prog 33 #[.pointer (some ⟨d, 0, none⟩)] w fun e w' => ∃ sp n c, e = .returned (.slice sp n c) ∧ fs.length = n ∧ OwnN w.heap.size w' sp c (fs.map (·.1)) ∧ Below w.heap.size w w' := by
  have b0 : Below w.heap.size w (w.alloc (.cells #[.slice none 0 0] 58)) := (Below.refl _ _).alloc (Nat.le_refl _) _
  have hW : (w.alloc (.cells #[.slice none 0 0] 58)).heap.size = w.heap.size + 1 := by simp
  have hU0 := heap_new w (.cells #[.slice none 0 0] 58)
  have EC := hide (each_calls base d M room N (w.alloc (.cells #[.slice none 0 0] 58)) fs (h.later b0) 90 #[.pointer (some ⟨w.heap.size, 0, none⟩)] enter_names
    (fun w' => ∃ sp c, w'.heap[w.heap.size]? = some (.cells #[.slice sp fs.length c] 58 (0, 0)) ∧ OwnN w.heap.size w' sp c (fs.map (·.1)) ∧ Below w.heap.size w w') (fun W0 hb => by
      have hbW : Below w.heap.size w W0 := b0.trans (hb.mono b0.size)
      have hW0 := hb.size
      refine ⟨fun i w1 => ∃ sp c, w1.heap[w.heap.size]? = some (.cells #[.slice sp i c] 58 (0, 0)) ∧ i ≤ fs.length ∧ OwnN W0.heap.size w1 sp c ((fs.map (·.1)).take i) ∧ (∀ g, g < W0.heap.size → g ≠ w.heap.size → w1.heap[g]? = W0.heap[g]?) ∧ w1.os = W0.os ∧ w1.tape = W0.tape ∧ w1.output = W0.output ∧ W0.heap.size ≤ w1.heap.size, ?_, ?_, ?_, ?_⟩
      · refine ⟨none, 0, ?_, by omega, OwnN.ofNil _ _, fun _ _ _ => rfl, rfl, rfl, rfl, Nat.le_refl _⟩
        rw [hb.block w.heap.size (by omega)]
        exact hU0
      · rintro i w1 ⟨sp, c, _, _, _, hs, _⟩ g hg1 hg2
        exact hs g hg2 (by omega)
      · rintro i hi w1 ⟨sp, c, hV, hil, ho, hs, hos, hta, hou, hsz⟩
        have hss : ∀ g, g < w.heap.size → w1.heap[g]? = w.heap[g]? := fun g hlt => (hs g (Nat.lt_of_lt_of_le hlt hbW.size) (by omega)).trans (hbW.block g hlt)
        have h1 := h.still hss
        refine ⟨h1.c1, h1.lookAt i hi, ?_⟩
        have h16 := h.few
        refine (names1_calls W0.heap.size fs[i].1 fs[i].2.1 w.heap.size sp i c ((fs.map (·.1)).take i) w1 (by simp; omega) hV ho (by omega) hsz).mono ?_
        rintro e w2 ⟨rfl, sp', c', hV2, ho2, hs2, hos2, hta2, hou2, hsz2, hl2⟩
        refine ⟨rfl, sp', c', hV2, by omega, ?_, fun g h2 h3 => (hs2 g (Nat.lt_of_lt_of_le h2 hsz) h3 (fun e => ?_)).trans (hs g h2 h3), hos2.trans hos, hta2.trans hta, hou2.trans hou, Nat.le_trans hsz hsz2⟩
        · rw [List.take_succ_eq_append_getElem (by simpa using hi), List.getElem_map]
          exact ho2
        · have := (ho.blk_is g e).1
          omega
      · rintro w1 ⟨sp, c, hV, _, ho, hs, hos, hta, hou, hsz⟩
        rw [List.take_of_length_le (by simp)] at ho
        exact ⟨sp, c, hV, ho.mono hbW.size, hos.trans hbW.os, hta.trans hbW.tape, hou.trans hbW.output, Nat.le_trans hbW.size hsz, fun g hg => (hs g (Nat.lt_of_lt_of_le hg hbW.size) (by omega)).trans (hbW.block g hg)⟩))
  clear h b0 hW hU0
  go_enter Tryz.func33, Tryz.ntmps33
  go_wp2_with (go_at_call 77; refine (unhide EC).mono ?_; rintro e W ⟨rfl, sp, c, hU, hO, hB⟩; have c0 := fcell hU 0 _ rfl; have HB := hide hB; have HO := hide hO; clear hU hB hO)
  go_ret
  exact ⟨sp, _, c, rfl, rfl, unhide HO, unhide HB⟩
/-- Texts as they lie in memory. -/
structure TextsAt (w : World) (a : Option Addr) (l : List ByteArray) : Prop where
  sz : ∀ s ∈ l, s.size ≤ maxLen
  cell : ∀ i (hi : i < l.length), ∃ b off, a = some ⟨b, off, none⟩ ∧ w.cell? ⟨b, off + i, none⟩ = some (.string l[i])
theorem TextsAt.later {w w' : World} {a : Option Addr} {l : List ByteArray} (h : TextsAt w a l) (hb : Below w.heap.size w w') : TextsAt w' a l :=
  ⟨h.sz, fun i hi => by obtain ⟨b, off, e, hc⟩ := h.cell i hi; exact ⟨b, off, e, cell_later hb hc⟩⟩
set_option maxRecDepth 20000 in
set_option maxHeartbeats 40000000 in
theorem named_calls (s : ByteArray) (w : World) (hs : s.size ≤ maxLen) : Calls Tryz.prog 83 #[.string s] w fun e w' => e = .returned (.bool (nameL s.data.toList)) ∧ w' = w := by
  have hlen : s.data.toList.length = s.size := by simp
  simp only [maxLen] at hs
  go_enter Tryz.func83, Tryz.ntmps83
  go_wp2_with fail
  go_loopw [3] (fun i wr => ∃ j : Nat, j ≤ s.size ∧ i = .int .i64 (j : Int) ∧ Hid ((s.data.toList.take j).all (fun b => stands b.toNat) = true) ∧ Hid (wr = w)) (fun i _ => s.size - (intOf i).toNat)
  case atStart => exact ⟨0, by omega, rfl, by exact hide (by simp), hide rfl⟩
  case round =>
    obtain ⟨j, hj, rfl, HA, HW⟩ := hrel
    have hW := unhide HW
    subst hW
    by_cases hjn : j < s.size
    · have hj0 : (0 : Int) ≤ (j : Int) := by omega
      have hj1 : (j : Int) < (s.size : Int) := by omega
      obtain ⟨b, hb⟩ : ∃ b : Nat, s[j].toNat = b := ⟨_, rfl⟩
      have hjl : j < s.data.toList.length := by omega
      have hsj : s.data.toList[j] = s[j] := rfl
      have HY := hide (show stands b = true → (s.data.toList.take (j + 1)).all (fun b => stands b.toNat) = true from fun hp => by
        rw [List.take_succ_eq_append_getElem hjl, List.all_append, unhide HA, hsj]; simp [hb, hp])
      have HN := hide (show stands b = false → nameL s.data.toList = false from fun hp => by
        have : s.data.toList.all (fun b => stands b.toNat) = false := by
          rw [List.all_eq_false]; exact ⟨s[j], hsj ▸ List.getElem_mem hjl, by simp [hb, hp]⟩
        simp [nameL, this])
      clear hsj
      rcases (show (97 ≤ b ∧ b ≤ 122) ∨ (48 ≤ b ∧ b ≤ 57) ∨ b = 45 ∨ b = 46 ∨ (b < 48 ∧ b ≠ 45 ∧ b ≠ 46) ∨ (57 < b ∧ b < 97) ∨ 122 < b by omega) with ⟨x1, x2⟩ | ⟨x1, x2⟩ | rfl | rfl | ⟨x1, x2, x3⟩ | ⟨x1, x2⟩ | x1
      · have y1 : (97 : Int) ≤ (b : Int) := by omega
        have y2 : (b : Int) ≤ 122 := by omega
        go_wp2
        exact ⟨⟨j + 1, by omega, by go_num, unhide HY (by simp [stands]; try omega), by first | exact hide trivial | exact hide rfl⟩, by simp [intOf]; omega⟩
      · have y1 : ¬ (97 : Int) ≤ (b : Int) := by omega
        have y2 : (48 : Int) ≤ (b : Int) := by omega
        have y3 : (b : Int) ≤ 57 := by omega
        go_wp2
        exact ⟨⟨j + 1, by omega, by go_num, unhide HY (by simp [stands]; try omega), by first | exact hide trivial | exact hide rfl⟩, by simp [intOf]; omega⟩
      · go_wp2
        exact ⟨⟨j + 1, by omega, by go_num, unhide HY (by simp [stands]; try omega), by first | exact hide trivial | exact hide rfl⟩, by simp [intOf]; omega⟩
      · go_wp2
        exact ⟨⟨j + 1, by omega, by go_num, unhide HY (by simp [stands]; try omega), by first | exact hide trivial | exact hide rfl⟩, by simp [intOf]; omega⟩
      · have y1 : ¬ (97 : Int) ≤ (b : Int) := by omega
        have y2 : ¬ (48 : Int) ≤ (b : Int) := by omega
        have y3 : ¬ (b : Int) = 45 := by omega
        have z45 : ((b : Int) != 45) = true := by simp; omega
        have y4 : ¬ (b : Int) = 46 := by omega
        have z46 : ((b : Int) != 46) = true := by simp; omega
        go_wp2
        go_ret
        exact ⟨by rw [unhide HN (by simp [stands]; omega)]; rfl, rfl⟩
      · have y1 : ¬ (97 : Int) ≤ (b : Int) := by omega
        have y2 : (48 : Int) ≤ (b : Int) := by omega
        have y3 : ¬ (b : Int) ≤ 57 := by omega
        have y4 : ¬ (b : Int) = 45 := by omega
        have z45 : ((b : Int) != 45) = true := by simp; omega
        have y5 : ¬ (b : Int) = 46 := by omega
        have z46 : ((b : Int) != 46) = true := by simp; omega
        go_wp2
        go_ret
        exact ⟨by rw [unhide HN (by simp [stands]; omega)]; rfl, rfl⟩
      · have y1 : (97 : Int) ≤ (b : Int) := by omega
        have y2 : (48 : Int) ≤ (b : Int) := by omega
        have y3 : ¬ (b : Int) ≤ 57 := by omega
        have y4 : ¬ (b : Int) = 45 := by omega
        have z45 : ((b : Int) != 45) = true := by simp; omega
        have y5 : ¬ (b : Int) = 46 := by omega
        have z46 : ((b : Int) != 46) = true := by simp; omega
        have y6 : ¬ (b : Int) ≤ 122 := by omega
        go_wp2
        go_ret
        exact ⟨by rw [unhide HN (by simp [stands]; omega)]; rfl, rfl⟩
    · have h3 := unhide HA
      rw [List.take_of_length_le (by omega)] at h3
      have HN := hide (show nameL s.data.toList = (decide (1 ≤ s.size) && decide (s.size ≤ 64)) by
        simp only [nameL, h3, Bool.and_true, hlen])
      have hj2 : ¬ (j : Int) < (s.size : Int) := by omega
      clear h3
      by_cases g1 : 1 ≤ s.size
      · have g2 : (1 : Int) ≤ (s.size : Int) := by omega
        by_cases g3 : s.size ≤ 64
        · have g4 : (s.size : Int) ≤ 64 := by omega
          go_wp2
          go_ret
          exact ⟨by rw [unhide HN]; simp [g1, g3], rfl⟩
        · have g4 : ¬ (s.size : Int) ≤ 64 := by omega
          go_wp2
          go_ret
          exact ⟨by rw [unhide HN]; simp [g3], rfl⟩
      · have g2 : ¬ (1 : Int) ≤ (s.size : Int) := by omega
        go_wp2
        go_ret
        exact ⟨by rw [unhide HN]; simp [g1], rfl⟩
end Go.Proofs.YtagncghpfdjkmaaGreatDoor
end
/- Disk: contracts over what a disk is by the document, with blocks that lie aside. -/
section
namespace Go.Proofs.YtagncghpfdjkmaaGreatDoor
open Go.ChangeShapes Go.WideShapes Go.ChangeAt Go.RowKit Go.Maps
set_option linter.unusedVariables false

/-- A disk in memory, from a block on; the blocks of Av lie aside. -/
structure DAt (Av : Nat → Prop) (base : Nat) (w : World) (d M room N : Nat) (ss : Ds) : Prop where
  le : base ≤ w.heap.size
  few : N ≤ 1000000
  at_ : ∃ fs, DiskAt base w d M room N fs ∧ sps fs = ss ∧ ∀ g, Av g → g < w.heap.size ∧ ¬ DMut d M fs g ∧ ¬ DRed fs g
section
variable {Av Bv : Nat → Prop} {base d M room N : Nat} {w w' : World} {ss : Ds}
theorem DAt.av (h : DAt Av base w d M room N ss) (hb : ∀ g, Bv g → Av g) : DAt Bv base w d M room N ss := by
  obtain ⟨fs, h1, h2, h3⟩ := h.at_
  exact ⟨h.le, h.few, fs, h1, h2, fun g hg => h3 g (hb g hg)⟩
theorem DAt.later (h : DAt Av base w d M room N ss) (hb : Below w.heap.size w w') : DAt Av base w' d M room N ss := by
  obtain ⟨fs, h1, h2, h3⟩ := h.at_
  exact ⟨Nat.le_trans h.le hb.size, h.few, fs, h1.later hb, h2, fun g hg => ⟨Nat.lt_of_lt_of_le (h3 g hg).1 hb.size, (h3 g hg).2⟩⟩
theorem DAt.drew (h : DAt Av base w d M room N ss) : DAt Av base w.drew d M room N ss := h.later ((Below.refl _ _).drew)
theorem DAt.mono {N' : Nat} (h : DAt Av base w d M room N ss) (hN : N ≤ N') (hf : N' ≤ 1000000) : DAt Av base w d M room N' ss := by
  obtain ⟨fs, h1, h2, h3⟩ := h.at_
  exact ⟨h.le, hf, fs, h1.mono hN, h2, h3⟩
/-- Blocks that came later lie aside too. -/
theorem DAt.more (h : DAt Av base w d M room N ss) (hb : Below w.heap.size w w') : DAt (fun g => Av g ∨ (w.heap.size ≤ g ∧ g < w'.heap.size)) base w' d M room N ss := by
  obtain ⟨fs, h1, h2, h3⟩ := h.at_
  refine ⟨Nat.le_trans h.le hb.size, h.few, fs, h1.later hb, h2, fun g hg => ?_⟩
  rcases hg with hg | ⟨g1, g2⟩
  · exact ⟨Nat.lt_of_lt_of_le (h3 g hg).1 hb.size, (h3 g hg).2⟩
  · refine ⟨g2, fun hm => ?_, fun hm => ?_⟩
    · have := (h1.mut_lt hm).2; omega
    · have := (h1.red_lt hm).2; omega
/-- What is done to blocks that lie aside leaves a disk as it was. -/
theorem DAt.aside (h : DAt Av base w d M room N ss) (hs : ∀ g, g < w.heap.size → ¬ Av g → w'.heap[g]? = w.heap[g]?) (hz : w.heap.size ≤ w'.heap.size) : DAt Av base w' d M room N ss := by
  obtain ⟨fs, h1, h2, h3⟩ := h.at_
  refine ⟨Nat.le_trans h.le hz, h.few, fs, h1.same (fun g hg hm => hs g hg (fun ha => ?_)), h2, fun g hg => ⟨Nat.lt_of_lt_of_le (h3 g hg).1 hz, (h3 g hg).2⟩⟩
  rcases hm with hm | hm
  · exact (h3 g ha).2.1 hm
  · exact (h3 g ha).2.2 hm
theorem DAt.lt (h : DAt Av base w d M room N ss) {g : Nat} (hg : Av g) : g < w.heap.size := by
  obtain ⟨fs, h1, h2, h3⟩ := h.at_
  exact (h3 g hg).1
theorem DAt.rise (h : DAt Av base w d M room N ss) : Rises ss := by
  obtain ⟨fs, h1, rfl, _⟩ := h.at_
  exact h1.riseS
theorem DAt.len (h : DAt Av base w d M room N ss) : ss.length ≤ 16 := by
  obtain ⟨fs, h1, rfl, _⟩ := h.at_
  rw [List.length_map]
  exact h1.few
theorem DAt.nmlen (h : DAt Av base w d M room N ss) : ∀ x ∈ ss, x.1.length ≤ 64 := by
  obtain ⟨fs, h1, rfl, _⟩ := h.at_
  intro x hx
  obtain ⟨y, hy, rfl⟩ := List.mem_map.1 hx
  exact h1.names y hy
/-- What lies aside stays, and what lay below. -/
structure Asd (Av : Nat → Prop) (base : Nat) (w w' : World) : Prop where
  av : ∀ g, Av g → w'.heap[g]? = w.heap[g]?
  bel : Below base w w'
theorem Asd.refl (Av : Nat → Prop) (base : Nat) (w : World) : Asd Av base w w := ⟨fun _ _ => rfl, Below.refl _ _⟩
theorem Asd.trans {w2 : World} (h : Asd Av base w w') (k : Asd Av base w' w2) : Asd Av base w w2 := ⟨fun g hg => (k.av g hg).trans (h.av g hg), h.bel.trans k.bel⟩
theorem Asd.of (hd : ∀ g, Av g → g < w.heap.size) (hle : base ≤ w.heap.size) (hb : Below w.heap.size w w') : Asd Av base w w' := ⟨fun g hg => hb.block g (hd g hg), hb.mono hle⟩
theorem Asd.sub (h : Asd Av base w w') (hs : ∀ g, Bv g → Av g) : Asd Bv base w w' := ⟨fun g hg => h.av g (hs g hg), h.bel⟩
/-- How a call ends. -/
def AEnd (Av : Nat → Prop) (base d M room N : Nat) (w : World) (r : Nat × Ds) (e : Ending) (w' : World) : Prop := e = .returned (.int .i64 (r.1 : Int)) ∧ DAt Av base w' d M room N r.2 ∧ Asd Av base w w'
theorem AEnd.of {r : Nat × Ds} {e : Ending} {fs : List Fe} (h : DiskAt base w d M room N fs) (hb : base ≤ w.heap.size) (hav : ∀ g, Av g → g < w.heap.size ∧ ¬ DMut d M fs g ∧ ¬ DRed fs g) {N' : Nat} (hN : N' ≤ 1000000) (hE : DEnd base d M room N' w fs r e w') : AEnd Av base d M room N' w r e w' := by
  obtain ⟨he, fs', h1, hg, hs⟩ := hE
  refine ⟨he, ⟨Nat.le_trans hb hg.size, hN, fs', h1, hs, fun g ha => ?_⟩, fun g ha => hg.block g (hav g ha).1 (hav g ha).2.1, DGrew.below h hb hg⟩
  obtain ⟨a1, a2, a3⟩ := hav g ha
  refine ⟨Nat.lt_of_lt_of_le a1 hg.size, fun hm => ?_, fun hm => ?_⟩
  · rcases hg.muts g hm with q | q
    · exact a2 q
    · omega
  · rcases hg.reds g hm with q | q
    · exact a3 q
    · omega
theorem anew_calls (w : World) (z : Int) : Calls Tryz.prog 22 #[.int .i64 z] w fun e w' => ∃ d M, e = .returned (.pointer (some ⟨d, 0, none⟩)) ∧ DAt (fun _ => False) w.heap.size w' d M z.toNat 0 [] ∧ Below w.heap.size w w' := by
  refine (dnew_calls (base := w.heap.size) w (Nat.le_refl _) z).mono ?_
  rintro e W ⟨rfl, h, b⟩
  exact ⟨_, _, rfl, ⟨b.size, by omega, [], h, rfl, fun g hg => hg.elim⟩, b⟩
theorem awrite_calls (h : DAt Av base w d M room N ss) (hN : N + 1 ≤ 1000000) (s : ByteArray) (hs : s.size ≤ maxLen) (z : Int) (hz64 : z ≤ 9223372036854775807) (xp : Option Addr) (xn xc : Nat) (o : List Nat) (ho : o.length = xn) (hxc : xn ≤ xc) (hB : BytesAt w xp o) (hx0 : xp = none → xc = 0) (hlo : ∀ b off, xp = some ⟨b, off, none⟩ → 0 < xn → b < base ∨ Av b) (hxl : xn ≤ 140737488355328) :
    Calls Tryz.prog 28 #[.pointer (some ⟨d, 0, none⟩), .string s, .int .i64 z, .slice xp xn xc] w (AEnd Av base d M room (N + 1) w (dWrite room s.data.toList z o ss)) := by
  obtain ⟨fs, h1, rfl, h3⟩ := h.at_
  refine (dwrite_calls h1 h.le h.few s hs z hz64 xp xn xc o ho hxc hB hx0 (fun b off e h0 hm => ?_) hxl).mono fun e w' hE => AEnd.of h1 h.le h3 hN hE
  have := (h1.mut_lt hm).1
  rcases hlo b off e h0 with q | q
  · omega
  · exact (h3 b q).2.1 hm
theorem async_calls (h : DAt Av base w d M room N ss) (s : ByteArray) (hs : s.size ≤ maxLen) :
    Calls Tryz.prog 38 #[.pointer (some ⟨d, 0, none⟩), .string s] w (AEnd Av base d M room N w (dSync s.data.toList ss)) := by
  obtain ⟨fs, h1, rfl, h3⟩ := h.at_
  exact (dsync_calls h1 h.le s hs).mono fun e w' hE => AEnd.of h1 h.le h3 h.few hE
theorem aremove_calls (h : DAt Av base w d M room N ss) (s : ByteArray) (hs : s.size ≤ maxLen) :
    Calls Tryz.prog 69 #[.pointer (some ⟨d, 0, none⟩), .string s] w (AEnd Av base d M room N w (dRemove s.data.toList ss)) := by
  obtain ⟨fs, h1, rfl, h3⟩ := h.at_
  exact (dremove_calls h1 s hs).mono fun e w' hE => AEnd.of h1 h.le h3 h.few hE
theorem arename_calls (h : DAt Av base w d M room N ss) (a b : ByteArray) (ha : a.size ≤ maxLen) (hb : b.size ≤ maxLen) :
    Calls Tryz.prog 39 #[.pointer (some ⟨d, 0, none⟩), .string a, .string b] w (AEnd Av base d M room N w (dRename a.data.toList b.data.toList ss)) := by
  obtain ⟨fs, h1, rfl, h3⟩ := h.at_
  exact (drename_calls h1 a b ha hb).mono fun e w' hE => AEnd.of h1 h.le h3 h.few hE
theorem acrash_calls (h : DAt Av base w d M room N ss) (kp : Option Addr) (kn kc : Nat) (ks : List Int) (hks : ks.length = kn) (hI : IntsAt w kp ks) (hlo : ∀ b off, kp = some ⟨b, off, none⟩ → 0 < ks.length → b < base ∨ Av b) :
    Calls Tryz.prog 26 #[.pointer (some ⟨d, 0, none⟩), .slice kp kn kc] w fun e w' => e = .returned (.tuple #[]) ∧ DAt Av base w' d M room N (crashS ks 0 ss) ∧ Asd Av base w w' := by
  obtain ⟨fs, h1, rfl, h3⟩ := h.at_
  refine (dcrash_calls h1 h.le h.few kp kn kc ks hks hI (fun b off e h0 hm => ?_)).mono ?_
  · have := (h1.mut_lt hm).1
    rcases hlo b off e h0 with q | q
    · omega
    · exact (h3 b q).2.1 hm
  · rintro e W ⟨rfl, fs', h2, hg, hs⟩
    have hE : DEnd base d M room N w fs (0, crashS ks 0 (sps fs)) (.returned (.int .i64 ((0 : Nat) : Int))) W := ⟨rfl, fs', h2, hg, hs⟩
    obtain ⟨_, q1, q2⟩ := AEnd.of h1 h.le h3 h.few hE
    exact ⟨rfl, q1, q2⟩
theorem aread_yes (h : DAt Av base w d M room N ss) (s : ByteArray) (hs : s.size ≤ maxLen) (x : Sp) (hx : getS s.data.toList ss = some x) :
    Calls Tryz.prog 88 #[.pointer (some ⟨d, 0, none⟩), .string s] w fun e w' => ∃ sp n, e = .returned (.tuple #[.slice sp n n, .int .i64 0]) ∧ x.now.length = n ∧ n ≤ 262144 ∧ Bx w.heap.size w' sp n x.now ∧ Below w.heap.size w w' := by
  obtain ⟨fs, h1, rfl, _⟩ := h.at_
  rw [sps_get, Option.map_eq_some_iff] at hx
  obtain ⟨⟨F, f⟩, hx, rfl⟩ := hx
  exact dread_yes h1 s hs F f hx
theorem aread_no (h : DAt Av base w d M room N ss) (s : ByteArray) (hs : s.size ≤ maxLen) (hx : getS s.data.toList ss = none) :
    Calls Tryz.prog 88 #[.pointer (some ⟨d, 0, none⟩), .string s] w fun e w' => e = .returned (.tuple #[.slice none 0 0, .int .i64 8]) ∧ w' = w := by
  obtain ⟨fs, h1, rfl, _⟩ := h.at_
  rw [sps_get, Option.map_eq_none_iff] at hx
  exact dread_no h1 s hs hx
theorem anames_calls (h : DAt Av base w d M room N ss) : Calls Tryz.prog 33 #[.pointer (some ⟨d, 0, none⟩)] w fun e w' => ∃ sp n c, e = .returned (.slice sp n c) ∧ ss.length = n ∧ OwnN w.heap.size w' sp c (ss.map (·.1)) ∧ Below w.heap.size w w' := by
  obtain ⟨fs, h1, rfl, _⟩ := h.at_
  refine (dnames_calls h1).mono ?_
  rintro e W ⟨sp, n, c, rfl, hn, ho, hb⟩
  refine ⟨sp, n, c, rfl, by rw [List.length_map]; exact hn, ?_, hb⟩
  rw [List.map_map]
  exact ho
end
end Go.Proofs.YtagncghpfdjkmaaGreatDoor
end
/- Member: within, rises, slices.Contains, slices.ContainsFunc, Right; the document's In. -/
section
namespace Go.Proofs.YtagncghpfdjkmaaGreatDoor
open Go.ChangeShapes Go.WideShapes Go.ChangeAt Go.RowKit

def In64 (n : Int) : Prop := -9223372036854775808 ≤ n ∧ n ≤ 9223372036854775807
theorem heap_old {w : World} {g : Nat} {x : Obj} (o : Obj) (h : w.heap[g]? = some x) : (w.alloc o).heap[g]? = some x :=
  (Below.heap_alloc w o g (Array.getElem?_eq_some_iff.1 h).1).trans h
theorem box_cell {w : World} {j : Nat} {cs : Array Value} {T : TypeId} (h : w.heap[j]? = some (.cells cs T (0, 0))) (f : Nat) (v : Value) (hv : cs[f]? = some v) : w.cell? ⟨j, f, none⟩ = some v := by
  rw [cell_of_row _ _ _ _ _ _ h, hv]
theorem later_block {w w' : World} {j : Nat} {o : Obj} (hb : Below w.heap.size w w') (h : w.heap[j]? = some o) : w'.heap[j]? = some o := (hb.block j (Array.getElem?_eq_some_iff.1 h).1).trans h
/-- Nodes' numbers, each greater than the one ahead of it. -/
def riseFrom (last : Int) : List Int → Bool
  | [] => true
  | n :: r => decide (last + 1 ≤ n) && decide (n ≤ 9) && riseFrom n r
def rightM (v l : List Int) : Bool := !v.isEmpty && riseFrom 0 v && riseFrom 0 l && !(l.any fun n => decide (n ∈ v))
theorem within_calls (n a b : Int) (w : World) : Calls Tryz.prog 149 #[.int .i64 n, .int .i64 a, .int .i64 b] w fun e w' => e = .returned (.bool (decide (a ≤ n) && decide (n ≤ b))) ∧ w' = w := by
  by_cases h1 : a ≤ n
  · by_cases h2 : n ≤ b
    · go_enter Tryz.func149, Tryz.ntmps149
      go_wp2
      go_ret
      exact ⟨by simp [h1, h2], rfl⟩
    · go_enter Tryz.func149, Tryz.ntmps149
      go_wp2
      go_ret
      exact ⟨by simp [h2], rfl⟩
  · go_enter Tryz.func149, Tryz.ntmps149
    go_wp2
    go_ret
    exact ⟨by simp; omega, rfl⟩
theorem rise_drop {l : List Int} {j : Nat} (hj : j < l.length) (last : Int) : riseFrom last (l.drop j) = (decide (last + 1 ≤ l[j]) && decide (l[j] ≤ 9) && riseFrom l[j] (l.drop (j + 1))) := by
  rw [List.drop_eq_getElem_cons hj]
  rfl
section
variable {w : World} {a : Option Addr} {c : Nat} {l : List Int}
set_option maxHeartbeats 2000000 in
theorem rises_calls (h : IntsAt w a l) (m : Nat) (hm : l.length = m) (hx : m ≤ maxLen) : Calls Tryz.prog 125 #[.slice a m c] w fun e w' => e = .returned (.bool (riseFrom 0 l)) ∧ w' = w := by
  have H := hide h
  have HM := hide hm
  simp only [maxLen] at hx
  clear h hm
  go_enter Tryz.func125, Tryz.ntmps125
  go_wp2_with fail
  go_loopw [3, 8] (fun v i wr => ∃ (j : Nat) (last : Int), j ≤ m ∧ 0 ≤ last ∧ last ≤ 9 ∧ v = .int .i64 last ∧ i = .int .i64 (j : Int) ∧ Hid (riseFrom last (l.drop j) = riseFrom 0 l) ∧ Hid (wr = w)) (fun _ i _ => m - (intOf i).toNat)
  case atStart => exact ⟨0, 0, by omega, by omega, by omega, rfl, rfl, rfl, rfl⟩
  case round =>
    obtain ⟨j, last, hj, hl0, hl1, rfl, rfl, hr, hw⟩ := hrel
    have hw' := unhide hw
    subst hw'
    by_cases hjm : j < m
    · have hjl : j < l.length := by rw [unhide HM]; exact hjm
      obtain ⟨b, off, rfl, p0⟩ := (unhide H).cell j hjl
      have hD := hide (rise_drop hjl last)
      generalize l[j] = x at *
      have hj0 : (0 : Int) ≤ (j : Int) := by omega
      have hj1 : (j : Int) < (m : Int) := by omega
      go_wp2_with fail
      refine (within_calls x (last + 1) 9 _).mono ?_
      rintro e w2 ⟨rfl, rfl⟩
      by_cases hin : last + 1 ≤ x ∧ x ≤ 9
      · have e1 : (decide (last + 1 ≤ x) && decide (x ≤ 9)) = true := by simp [hin.1, hin.2]
        rw [e1]
        have R2 := hide (show riseFrom x (l.drop (j + 1)) = riseFrom 0 l by rw [← unhide hr, unhide hD, e1]; rfl)
        clear e1
        go_wp2
        exact ⟨⟨j + 1, x, by omega, by omega, by omega, rfl, by go_num, unhide R2, by first | exact rfl | exact hide trivial⟩, by simp [intOf]; omega⟩
      · have e1 : (decide (last + 1 ≤ x) && decide (x ≤ 9)) = false := by
          simp only [Bool.and_eq_false_iff, decide_eq_false_iff_not]; omega
        rw [e1]
        have R2 := hide (show riseFrom 0 l = false by rw [← unhide hr, unhide hD, e1]; rfl)
        clear e1 hin
        go_wp2
        go_ret
        exact ⟨by rw [unhide R2]; rfl, rfl⟩
    · obtain rfl : j = m := by omega
      have R2 := hide (show riseFrom 0 l = true by rw [← unhide hr, List.drop_of_length_le (by rw [unhide HM]; exact Nat.le_refl _)]; rfl)
      go_wp2
      go_ret
      exact ⟨by rw [unhide R2]; rfl, rfl⟩
set_option maxHeartbeats 2000000 in
theorem index_calls (h : IntsAt w a l) (n : Int) (m : Nat) (hm : l.length = m) (hx : m ≤ maxLen) : Calls Tryz.prog 151 #[.slice a m c, .int .i64 n] w fun e w' => (∃ r : Int, e = .returned (.int .i64 r) ∧ ((r = -1 ∧ n ∉ l) ∨ (0 ≤ r ∧ n ∈ l))) ∧ w' = w := by
  have H := hide h
  have HM := hide hm
  simp only [maxLen] at hx
  clear h hm
  go_enter Tryz.func151, Tryz.ntmps151
  go_wp2_with fail
  go_loopw [8] (fun i wr => ∃ (j : Nat), j ≤ m ∧ i = .int .i64 (j : Int) ∧ Hid (n ∉ l.take j) ∧ Hid (wr = w)) (fun i _ => m - (intOf i).toNat)
  case atStart => exact ⟨0, by omega, rfl, by simp [Hid], rfl⟩
  case round =>
    obtain ⟨j, hj, rfl, hr, hw⟩ := hrel
    have hw' := unhide hw
    subst hw'
    by_cases hjm : j < m
    · have hjl : j < l.length := by rw [unhide HM]; exact hjm
      obtain ⟨b, off, rfl, p0⟩ := (unhide H).cell j hjl
      have hT := hide (List.take_succ_eq_append_getElem hjl)
      have hI := hide (List.getElem_mem hjl)
      generalize l[j] = x at *
      have hj0 : (0 : Int) ≤ (j : Int) := by omega
      have hj1 : (j : Int) < (m : Int) := by omega
      by_cases hin : n = x
      · subst hin
        go_wp2
        go_ret
        exact ⟨⟨(j : Int), rfl, .inr ⟨hj0, unhide hI⟩⟩, rfl⟩
      · have R2 := hide (show n ∉ l.take (j + 1) by rw [unhide hT, List.mem_append, List.mem_singleton]; exact fun h => h.elim (unhide hr) hin)
        go_wp2
        exact ⟨⟨j + 1, by omega, by go_num, unhide R2, by first | exact rfl | exact hide trivial⟩, by simp [intOf]; omega⟩
    · obtain rfl : j = m := by omega
      have R2 := hide (show n ∉ l by have := unhide hr; rwa [List.take_of_length_le (by rw [unhide HM]; exact Nat.le_refl _)] at this)
      go_wp2
      go_ret
      exact ⟨⟨-1, rfl, .inl ⟨rfl, unhide R2⟩⟩, rfl⟩
theorem contains_calls (h : IntsAt w a l) (n : Int) (m : Nat) (hm : l.length = m) (hx : m ≤ maxLen) : Calls Tryz.prog 128 #[.slice a m c, .int .i64 n] w fun e w' => e = .returned (.bool (decide (n ∈ l))) ∧ w' = w := by
  have H := hide h
  have HM := hide hm
  clear h hm
  go_enter Tryz.func128, Tryz.ntmps128
  go_wp2_with fail
  refine (index_calls (unhide H) n m (unhide HM) hx).mono ?_
  rintro e w2 ⟨⟨r, rfl, ⟨rfl, hn⟩ | ⟨hr, hn⟩⟩, rfl⟩
  · have e1 := hide (show decide (n ∈ l) = false by simp [hn])
    clear hn
    go_wp2
    go_ret
    exact ⟨by rw [unhide e1]; rfl, rfl⟩
  · have e1 := hide (show decide (n ∈ l) = true by simp [hn])
    clear hn
    go_wp2
    go_ret
    exact ⟨by rw [unhide e1]; first | rfl | simp [hr], rfl⟩
/-- A function value that picks numbers, as long as what lay in w0 lies there. -/
structure PickI (K : Nat) (caps : Array Value) (pick : Int → Bool) (w0 : World) : Prop where
  enter : ∀ (c : Array Value) (w : World), (callFunc K c).run Tryz.prog w = .ok (.enter K c) w
  call : ∀ (n : Int) (w : World), In64 n → Below w0.heap.size w0 w → Calls Tryz.prog K (#[.int .i64 n] ++ caps) w fun e w' => e = .returned (.bool (pick n)) ∧ Below w.heap.size w w'
set_option maxHeartbeats 2000000 in
theorem indexFuncI_calls (h : IntsAt w a l) (m : Nat) (hm : l.length = m) (hx : m ≤ maxLen) {K : Nat} {caps : Array Value} {pick : Int → Bool} (hK : PickI K caps pick w) :
    Calls Tryz.prog 150 #[.slice a m c, .func (.func K) #[] caps] w fun e w' => (∃ r : Int, e = .returned (.int .i64 r) ∧ ((r = -1 ∧ l.any pick = false) ∨ (0 ≤ r ∧ l.any pick = true))) ∧ Below w.heap.size w w' := by
  have H := hide h
  have HM := hide hm
  have HK := hide hK
  have hE := hK.enter
  simp only [maxLen] at hx
  clear h hm hK
  go_enter Tryz.func150, Tryz.ntmps150
  go_wp2_with fail
  go_loopw [8] (fun i wr => ∃ (j : Nat), j ≤ m ∧ i = .int .i64 (j : Int) ∧ Hid ((l.take j).any pick = false) ∧ Hid (Below w.heap.size w wr)) (fun i _ => m - (intOf i).toNat)
  case atStart => exact ⟨0, by omega, rfl, by simp [Hid], Below.refl _ _⟩
  case round =>
    obtain ⟨j, hj, rfl, hr, F⟩ := hrel
    by_cases hjm : j < m
    · have hjl : j < l.length := by rw [unhide HM]; exact hjm
      obtain ⟨b, off, rfl, p0⟩ := ((unhide H).later (unhide F)).cell j hjl
      have hT := hide (List.take_succ_eq_append_getElem hjl)
      have hI := hide (List.getElem_mem hjl)
      have hB := hide ((unhide H).bd _ (unhide hI))
      generalize l[j] = x at *
      have hj0 : (0 : Int) ≤ (j : Int) := by omega
      have hj1 : (j : Int) < (m : Int) := by omega
      go_wp2_with fail
      refine ((unhide HK).call x wr (unhide hB) (unhide F)).mono ?_
      rintro e w1 ⟨rfl, b1⟩
      have F1 := hide ((unhide F).trans (b1.mono (unhide F).size))
      clear b1 p0
      cases hp : pick x
      · have R2 := hide (show (l.take (j + 1)).any pick = false by rw [unhide hT, List.any_append, unhide hr]; simp [hp])
        go_wp2
        exact ⟨⟨j + 1, by omega, by go_num, unhide R2, unhide F1⟩, by simp [intOf]; omega⟩
      · have R2 := hide (show l.any pick = true from List.any_eq_true.2 ⟨x, unhide hI, hp⟩)
        go_wp2
        go_ret
        exact ⟨⟨(j : Int), rfl, .inr ⟨hj0, unhide R2⟩⟩, unhide F1⟩
    · obtain rfl : j = m := by omega
      have R2 := hide (show l.any pick = false by have := unhide hr; rwa [List.take_of_length_le (by rw [unhide HM]; exact Nat.le_refl _)] at this)
      go_wp2
      go_ret
      exact ⟨⟨-1, rfl, .inl ⟨rfl, unhide R2⟩⟩, unhide F⟩
theorem containsFunc_calls (h : IntsAt w a l) (m : Nat) (hm : l.length = m) (hx : m ≤ maxLen) {K : Nat} {caps : Array Value} {pick : Int → Bool} (hK : PickI K caps pick w) :
    Calls Tryz.prog 126 #[.slice a m c, .func (.func K) #[] caps] w fun e w' => e = .returned (.bool (l.any pick)) ∧ Below w.heap.size w w' := by
  have H := hide h
  have HM := hide hm
  have HK := hide hK
  clear h hm hK
  go_enter Tryz.func126, Tryz.ntmps126
  go_wp2_with fail
  refine (indexFuncI_calls (unhide H) m (unhide HM) hx (unhide HK)).mono ?_
  rintro e w2 ⟨⟨r, rfl, ⟨rfl, hn⟩ | ⟨hr, hn⟩⟩, b2⟩
  · have e1 := hide hn
    have B2 := hide b2
    clear hn b2
    go_wp2
    go_ret
    exact ⟨by rw [unhide e1]; rfl, unhide B2⟩
  · have e1 := hide hn
    have B2 := hide b2
    clear hn b2
    go_wp2
    go_ret
    exact ⟨by rw [unhide e1]; first | rfl | simp [hr], unhide B2⟩
end
end Go.Proofs.YtagncghpfdjkmaaGreatDoor
end
/- Small laws of memory for the texts of logs. -/
section
namespace Go.Proofs.YtagncghpfdjkmaaGreatDoor
open Go.ChangeShapes Go.WideShapes Go.ChangeAt Go.RowKit

end Go.Proofs.YtagncghpfdjkmaaGreatDoor
end
