/- Disk: a file comes to the map. -/
import Derived.Test.YtijcpmbfhfppmaaGreatDoorDkf
namespace Go.Proofs.YtijcpmbfhfppmaaGreatDoor
open Go.ChangeShapes Go.WideShapes Go.ChangeAt Go.RowKit Go.Maps

section
variable {base d M room N : Nat} {w w' w0 : World} {fs fs' : List Fe}
theorem DiskAt.drew (h : DiskAt base w d M room N fs) : DiskAt base w.drew d M room N fs := h.still (fun _ _ => rfl)
theorem DiskAt.inj (h : DiskAt base w d M room N fs) {y z a b : Fe} (hy : y ∈ fs) (hz : z ∈ fs) (hne : y.1 ≠ z.1) (ha : a ∈ fs) (hb : b ∈ fs) (ea : y.2 = a.2) (eb : z.2 = b.2) : a.1 ≠ b.1 := by
  intro e
  have := h.rise.one ha hb e
  subst this
  have h1 : y.2.1 = z.2.1 := by rw [ea, eb]
  exact h.ap y hy z hz hne y.2.1 (.inl rfl) (by rw [h1]; exact .inl rfl)
theorem DiskAt.restore (h : DiskAt base w d M room N fs) (x : Fe) (hx : x ∈ fs) (hgr : w.grownBy w' (some M)) (hm : MapAt w' M (putF x.1 x.2.1 (ptrs fs))) : DiskAt base w' d M room N fs ∧ DGrew d M w fs w' fs := by
  rw [putF_same (h.rise.map (fun x : Nat × Fil => x.1)) (List.mem_map.2 ⟨x, hx, rfl⟩)] at hm
  exact h.remap hgr hm h.rise (fun y hy => ⟨h.names y hy, y, hy, rfl⟩) (fun y hy z hz hne a ha b hb ea eb => h.inj hy hz hne ha hb ea eb) h.few
/-- A new file comes to it. -/
theorem DiskAt.add (h : DiskAt base w d M room N fs) (k : Nm) (hk : k.length ≤ 64) (hnew : getS k fs = none) (F : Nat) (f : Fil) (hf : FileAt base w F f) (hok : FOk N f) (hfew : fs.length < 16)
    (hmut : ∀ g, f.mut F g → w0.heap.size ≤ g) (hred : ∀ g, f.red g → w0.heap.size ≤ g) (h0 : ∀ g, DMut d M fs g ∨ DRed fs g → g < w0.heap.size) (hb0 : Below w0.heap.size w0 w) (hgr : w.grownBy w' (some M)) (hm : MapAt w' M (putF k F (ptrs fs))) :
    DiskAt base w' d M room N (putF k (F, f) fs) ∧ DGrew d M w0 fs w' (putF k (F, f) fs) := by
  have hkn := getS_none.1 hnew
  have hmem := fun (y : Fe) => mem_putF (k := k) (v := (F, f)) h.rise y
  have hkk : ∀ g, g < w.heap.size → g ≠ M → w'.heap[g]? = w.heap[g]? := fun g hlt hne => hgr.block g hlt (fun e => hne (Option.some.inj e))
  have hMlt : M < w0.heap.size := h0 M (.inl (.inr (.inl rfl)))
  have hxm : ∀ x ∈ fs, ∀ g, x.mut g → g < w0.heap.size := fun x hx g hg => h0 g (.inl (.inr (.inr ⟨x, hx, hg⟩)))
  have hxr : ∀ x ∈ fs, ∀ g, x.red g → g < w0.heap.size := fun x hx g hg => h0 g (.inr ⟨x, hx, hg⟩)
  refine ⟨⟨(hkk d h.ltD h.dm).trans h.box, by rw [ptrs_put]; exact hm, h.rise.put _ _, ?_, ?_, h.lowD, h.lowM, ?_, ?_, ?_, ?_⟩, ⟨hgr.os.trans hb0.os, hgr.tape.trans hb0.tape, hgr.output.trans hb0.output, Nat.le_trans hb0.size hgr.size, ?_, ?_, ?_⟩⟩
  · intro y hy
    rcases (hmem y).1 hy with rfl | ⟨hy, _⟩
    · refine hf.same (fun g hg => ?_)
      rcases hg with hg | hg
      · exact hkk g (hf.mut_lt hg).2 (fun e => by have := hmut g hg; omega)
      · exact hkk g (hf.red_lt hg).2.1 (fun e => by have := hred g hg; omega)
    · refine (h.file y hy).same (fun g hg => ?_)
      rcases hg with hg | hg
      · exact hkk g ((h.file y hy).mut_lt hg).2 (fun e => (h.notM hy).1 (e ▸ hg))
      · exact hkk g ((h.file y hy).red_lt hg).2.1 (fun e => (h.notM hy).2 (e ▸ hg))
  · intro y hy
    rcases (hmem y).1 hy with rfl | ⟨hy, _⟩
    · exact hok
    · exact h.ok y hy
  · intro y hy z hz hne g hyg hzg
    rcases (hmem y).1 hy with rfl | ⟨hy, _⟩ <;> rcases (hmem z).1 hz with rfl | ⟨hz, _⟩
    · exact hne rfl
    · have h1 := hmut g hyg
      have h2 := hxm z hz g hzg
      omega
    · have h1 := hmut g hzg
      have h2 := hxm y hy g hyg
      omega
    · exact h.ap y hy z hz hne g hyg hzg
  · intro y hy z hz g hyg hzg
    rcases (hmem y).1 hy with rfl | ⟨hy, _⟩ <;> rcases (hmem z).1 hz with rfl | ⟨hz, _⟩
    · exact hf.self hyg hzg
    · have h1 := hmut g hyg
      have h2 := hxr z hz g hzg
      omega
    · have h1 := hred g hzg
      have h2 := hxm y hy g hyg
      omega
    · exact h.rd y hy z hz g hyg hzg
  · rw [putF_length h.rise, if_neg hkn]
    omega
  · intro y hy
    rcases (hmem y).1 hy with rfl | ⟨hy, _⟩
    · exact hk
    · exact h.names y hy
  · intro i hi hn
    exact (hkk i (Nat.lt_of_lt_of_le hi hb0.size) (fun e => hn (.inr (.inl e)))).trans (hb0.block i hi)
  · intro g hg
    rcases hg with e | e | ⟨y, hy, hg⟩
    · exact .inl (.inl e)
    · exact .inl (.inr (.inl e))
    · rcases (hmem y).1 hy with rfl | ⟨hy, _⟩
      · exact .inr (hmut g hg)
      · exact .inl (.inr (.inr ⟨y, hy, hg⟩))
  · rintro g ⟨y, hy, hg⟩
    rcases (hmem y).1 hy with rfl | ⟨hy, _⟩
    · exact .inr (hred g hg)
    · exact .inl ⟨y, hy, hg⟩
theorem FileAt.zero (w : World) (hb : base ≤ w.heap.size) : FileAt base (w.alloc (.cells #[.slice none 0 0, .slice none 0 0, .bool false, .slice none 0 0] 118)) w.heap.size fil0 :=
  ⟨heap_new w _, Bx.ofNil _ _, Bx.ofNil _ _, OwnC.ofNil _ _, hb, fun g hg => (by cases hg), fun x hx => (by simp [fil0] at hx)⟩
theorem fil0_mut (F g : Nat) : fil0.mut F g ↔ g = F := by
  constructor
  · rintro (h | h | h | h)
    · exact h
    · cases h
    · cases h
    · cases h
  · exact .inl
theorem fil0_red (g : Nat) : ¬ fil0.red g := by rintro ⟨x, hx, _⟩; simp [fil0] at hx
set_option maxRecDepth 20000 in
set_option maxHeartbeats 4000000 in
theorem drename_calls (h : DiskAt base w d M room N fs) (a b : ByteArray) (ha : a.size ≤ maxLen) (hb : b.size ≤ maxLen) :
    Calls Tryz.prog 130 #[.pointer (some ⟨d, 0, none⟩), .string a, .string b] w (DEnd base d M room N w fs (dRename a.data.toList b.data.toList (sps fs))) := by
  have HS := hide (sps_get a.data.toList fs)
  cases hg : getS a.data.toList fs with
  | none =>
    have F1 := hide (find_no h a ha hg)
    have E1 := hide (DEnd.stay (w := w) (r := dRename a.data.toList b.data.toList (sps fs)) (e := .returned (.int .i64 8)) h (by simp [dRename, unhide HS, hg]) (by simp [dRename, unhide HS, hg]))
    clear h hg HS
    go_enter Tryz.func130, Tryz.ntmps130
    go_wp2_with (go_at_call 76; refine (unhide F1).mono ?_; rintro e w' ⟨rfl, rfl⟩)
    go_ret
    exact unhide E1
  | some x =>
    obtain ⟨F, f⟩ := x
    have F1 := hide (find_yes h a ha F f hg)
    have hnl := nameOk_list b
    cases hnm : nameOk b with
    | false =>
      have E1 := hide (fun w' (hb : Below w.heap.size w w') => DEnd.below (w := w) (r := dRename a.data.toList b.data.toList (sps fs)) (e := .returned (.int .i64 14)) h (by simp [dRename, unhide HS, hg, ← hnl, hnm]) (by simp [dRename, unhide HS, hg, ← hnl, hnm]) hb)
      clear h hg HS hnl
      go_enter Tryz.func130, Tryz.ntmps130
      go_wp2_with (first
        | (go_at_call 76; refine (unhide F1).mono ?_; rintro e w' ⟨rfl, rfl⟩)
        | (go_at_call 78; refine (isName_calls b _).mono ?_; rintro e W ⟨rfl, b1⟩; have E2 := hide (unhide E1 W b1); clear b1))
      go_ret
      exact unhide E2
    | true =>
      have hb64 : b.data.toList.length ≤ 64 := by
        have := hnm
        simp only [nameOk, Bool.and_eq_true, decide_eq_true_eq] at this
        rw [Array.length_toList]; exact this.2.1
      have E1 := hide (show ∀ W, Below w.heap.size w W → W.cell? ⟨d, 1, none⟩ = some (.map (some M)) ∧ ∃ W1 W2, (∀ ty, (Builtin.delete_ #[99, 9] ty #[.map (some M), .string a]).run Tryz.prog W = .ok (.tuple #[]) W1) ∧ W1.cell? ⟨d, 1, none⟩ = some (.map (some M)) ∧ (Instr.mapUpdate 99 (.map (some M)) (.string b) (.pointer (some ⟨F, 0, none⟩))).run Tryz.prog W1 = .ok () W2 ∧ DEnd base d M room N w fs (dRename a.data.toList b.data.toList (sps fs)) (.returned (.int .i64 0)) W2 from fun W bW => by
        have h1 := h.later bW
        obtain ⟨W1, hd, hm1, hg1, _⟩ := h1.map.drop (h1.rise.map (fun x : Nat × Fil => x.1)) a ha 0
        obtain ⟨W2, hu, hm2, hg2, _⟩ := hm1.store ((h1.rise.map (fun x : Nat × Fil => x.1)).del _) b hb F (by
          have := List.length_filter_le (fun x : Nm × Nat => decide (x.1 ≠ a.data.toList)) (ptrs fs)
          have h3 := h.few
          simp only [delF, ptrs, List.length_map] at this ⊢
          omega)
        refine ⟨h1.c1, W1, W2, fun _ => hd, ?_, hu, ?_⟩
        · exact fcell ((hg1.block d h1.ltD (fun e => h1.dm (Option.some.inj e))).trans h1.box) 1 _ rfl
        · have hmx := getS_some hg
          have hmem := fun (y : Fe) => mem_putF (k := b.data.toList) (v := (F, f)) (h.rise.del a.data.toList) y
          have hx0 : ∀ y ∈ putF b.data.toList (F, f) (delF a.data.toList fs), ∃ x ∈ fs, y.2 = x.2 := fun y hy => by
            rcases (hmem y).1 hy with rfl | ⟨hy, _⟩
            · exact ⟨_, hmx, rfl⟩
            · exact ⟨y, ((mem_delF y).1 hy).1, rfl⟩
          obtain ⟨k1, k2⟩ := h1.remap (fs' := putF b.data.toList (F, f) (delF a.data.toList fs)) (hg1.trans hg2) (by rw [ptrs_put, ptrs_del]; exact hm2) ((h.rise.del _).put _ _) (fun y hy => ⟨by
              rcases (hmem y).1 hy with rfl | ⟨hy, _⟩
              · exact hb64
              · exact h.names y ((mem_delF y).1 hy).1, hx0 y hy⟩) (fun y hy z hz hne p hp q hq ep eq e => by
              have := h.rise.one hp hq e
              subst this
              have h12 : y.2.1 = z.2.1 := by rw [ep, eq]
              rcases (hmem y).1 hy with rfl | ⟨hy, hye⟩ <;> rcases (hmem z).1 hz with rfl | ⟨hz, hze⟩
              · exact hne rfl
              · obtain ⟨hz1, hz2⟩ := (mem_delF z).1 hz
                exact h.ap _ hmx z hz1 (fun e => hz2 e.symm) F (.inl rfl) (by have : F = z.2.1 := h12; rw [this]; exact .inl rfl)
              · obtain ⟨hy1, hy2⟩ := (mem_delF y).1 hy
                exact h.ap y hy1 _ hmx hy2 F (by have : y.2.1 = F := h12; rw [← this]; exact .inl rfl) (.inl rfl)
              · exact h.ap y ((mem_delF y).1 hy).1 z ((mem_delF z).1 hz).1 hne y.2.1 (.inl rfl) (by rw [h12]; exact .inl rfl)) (by
              have h2 := delF_length (k := a.data.toList) h.rise
              rw [if_pos (List.mem_map.2 ⟨_, hmx, rfl⟩)] at h2
              rw [putF_length (h.rise.del _)]
              have := h.few
              split <;> omega)
          have hdr : dRename a.data.toList b.data.toList (sps fs) = (0, putF b.data.toList f.sp (delF a.data.toList (sps fs))) := by
            simp [dRename, unhide HS, hg, ← hnl, hnm]
          rw [hdr]
          refine ⟨rfl, _, k1, (DGrew.ofBelow bW).trans k2, ?_⟩
          rw [sps_put, sps_del])
      clear h hg HS hnl
      go_enter Tryz.func130, Tryz.ntmps130
      go_wp2_with (first
        | (go_at_call 76; refine (unhide F1).mono ?_; rintro e w' ⟨rfl, rfl⟩)
        | (go_at_call 78; refine (isName_calls b _).mono ?_; rintro e W ⟨rfl, b1⟩; obtain ⟨q1, W1, W2, q2, q3, q4, q5⟩ := unhide E1 W b1; have Q5 := hide q5; clear b1 q5))
      go_ret
      exact unhide Q5
end
end Go.Proofs.YtijcpmbfhfppmaaGreatDoor
