/- The program's disk and the document's side by side, over DAt. -/
import Derived.Test.YtagncghpfdjkmaaGreatDoorB09
import Derived.Test.YtagncghpfdjkmaaGreatDoorB36
import Derived.Test.YtagncghpfdjkmaaGreatDoorB24
import Derived.Test.YtagncghpfdjkmaaGreatDoorB27
import Derived.Test.YtagncghpfdjkmaaGreatDoorB28
import Derived.Test.YtagncghpfdjkmaaGreatDoorB30
section
namespace Go.Proofs.YtagncghpfdjkmaaGreatDoor
open Go.ChangeShapes Go.WideShapes Go.ChangeAt Go.RowKit Go.Maps
set_option linter.unusedVariables false

/-- The document's disk; what it owns lies in Fv. -/
def RAt (Fv : Nat → Prop) (w : World) (R room : Nat) (ss : Ds) : Prop := ∃ sp c rs, RefAt 0 w R room sp c rs ∧ rss rs = ss ∧ ∀ g, footR sp rs g → Fv g
section
variable {Fv Bv : Nat → Prop} {base d M R room N : Nat} {w0 w w' : World} {ss tt : Ds}
theorem RAt.same (h : RAt Fv w R room ss) (hR : w'.heap[R]? = w.heap[R]?) (hs : ∀ g, Fv g → w'.heap[g]? = w.heap[g]?) : RAt Fv w' R room ss := by
  obtain ⟨sp, c, rs, h1, h2, h3⟩ := h
  exact ⟨sp, c, rs, h1.same hR (fun g hg => hs g (h3 g hg)), h2, h3⟩
theorem RAt.later (h : RAt Fv w R room ss) (hb : Below w.heap.size w w') : RAt Fv w' R room ss := by
  obtain ⟨sp, c, rs, h1, h2, h3⟩ := h
  exact ⟨sp, c, rs, h1.later hb, h2, h3⟩
theorem RAt.ltR (h : RAt Fv w R room ss) : R < w.heap.size := by
  obtain ⟨sp, c, rs, h1, h2, h3⟩ := h
  exact h1.ltR
theorem RAt.sub {Gv : Nat → Prop} (h : RAt Fv w R room ss) (hs : ∀ g, Fv g → Gv g) : RAt Gv w R room ss := by
  obtain ⟨sp, c, rs, h1, h2, h3⟩ := h
  exact ⟨sp, c, rs, h1, h2, fun g hg => hs g (h3 g hg)⟩
theorem RAt.rise (h : RAt Fv w R room ss) : Rises ss := by
  obtain ⟨sp, c, rs, h1, rfl, h3⟩ := h
  exact h1.rise.map _
theorem RAt.len (h : RAt Fv w R room ss) : ss.length ≤ 16 := by
  obtain ⟨sp, c, rs, h1, rfl, h3⟩ := h
  unfold rss
  rw [List.length_map]
  exact h1.few
/-- The document's disk since a world: what it has made since is its own, and nothing else has changed. -/
structure RSo (Fv : Nat → Prop) (w0 w : World) (R room : Nat) (ss : Ds) : Prop where
  at_ : RAt (fun g => Fv g ∨ (w0.heap.size ≤ g ∧ g < w.heap.size)) w R room ss
  grown : w0.grownBy w (some R)
theorem RSo.start (h : RAt Fv w R room ss) : RSo Fv w w R room ss := ⟨h.sub (fun g hg => .inl hg), grown_refl _ _⟩
theorem RSo.below (h : RSo Fv w0 w R room ss) (hb : Below w.heap.size w w') : RSo Fv w0 w' R room ss :=
  ⟨(h.at_.later hb).sub (fun g hg => hg.imp id (fun q => ⟨q.1, Nat.lt_of_lt_of_le q.2 hb.size⟩)), grown_trans h.grown (grown_below _ hb)⟩
/-- How a call on the document's disk ends. -/
def RSEnd (Fv : Nat → Prop) (w0 : World) (R room : Nat) (w : World) (r : Nat × Ds) (e : Ending) (w' : World) : Prop := e = .returned (.int .i64 (r.1 : Int)) ∧ RSo Fv w0 w' R room r.2 ∧ w.grownBy w' (some R)
theorem RSo.done {sp : Option Addr} {rs rs' : List Rf} (h3 : ∀ g, footR sp rs g → Fv g ∨ (w0.heap.size ≤ g ∧ g < w.heap.size)) (hg0 : w0.grownBy w (some R)) (hd : RDone 0 R room w sp rs rs' w') : RSo Fv w0 w' R room (rss rs') := by
  obtain ⟨⟨sp', c', ha, hf⟩, hg⟩ := hd
  refine ⟨⟨sp', c', rs', ha, rfl, fun g hg' => ?_⟩, grown_trans hg0 hg⟩
  rcases hf g hg' with q | q
  · exact (h3 g q).imp id (fun z => ⟨z.1, Nat.lt_of_lt_of_le z.2 hg.size⟩)
  · exact .inr ⟨Nat.le_trans hg0.size q, (ha.own.lt hg').2⟩
theorem RSo.ended {r : Nat × Ds} {sp : Option Addr} {rs : List Rf} {e : Ending} (h3 : ∀ g, footR sp rs g → Fv g ∨ (w0.heap.size ≤ g ∧ g < w.heap.size)) (hg0 : w0.grownBy w (some R)) (hE : REnd 0 R room w sp rs r e w') : RSEnd Fv w0 R room w r e w' := by
  obtain ⟨he, rs', h2, hd⟩ := hE
  refine ⟨he, ?_, hd.grown⟩
  rw [← h2]
  exact RSo.done h3 hg0 hd
theorem sremove_calls (h : RSo Fv w0 w R room ss) (s : ByteArray) : Calls Tryz.prog 72 #[.pointer (some ⟨R, 0, none⟩), .string s] w (RSEnd Fv w0 R room w (dRemove s.data.toList ss)) := by
  obtain ⟨⟨sp, c, rs, h1, rfl, h3⟩, hg0⟩ := h
  exact (rremove_calls h1 (Nat.zero_le _) s).mono fun e w' hE => RSo.ended h3 hg0 hE
theorem ssync_calls (h : RSo Fv w0 w R room ss) (s : ByteArray) : Calls Tryz.prog 73 #[.pointer (some ⟨R, 0, none⟩), .string s] w (RSEnd Fv w0 R room w (dSync s.data.toList ss)) := by
  obtain ⟨⟨sp, c, rs, h1, rfl, h3⟩, hg0⟩ := h
  exact (rsync_calls h1 (Nat.zero_le _) s).mono fun e w' hE => RSo.ended h3 hg0 hE
theorem srename_calls (h : RSo Fv w0 w R room ss) (s b : ByteArray) (hb : b.size ≤ maxLen) : Calls Tryz.prog 74 #[.pointer (some ⟨R, 0, none⟩), .string s, .string b] w (RSEnd Fv w0 R room w (dRename s.data.toList b.data.toList ss)) := by
  obtain ⟨⟨sp, c, rs, h1, rfl, h3⟩, hg0⟩ := h
  exact (rrename_calls h1 (Nat.zero_le _) s b hb).mono fun e w' hE => RSo.ended h3 hg0 hE
/-- No file has more than so many changes. -/
def FewC (k : Nat) (ss : Ds) : Prop := ∀ x ∈ ss, x.2.cs.length ≤ k
theorem swrite_calls (h : RSo Fv w0 w R room ss) (hc : FewC 300 ss) (s : ByteArray) (hs : s.size ≤ maxLen) (z : Int) (hz64 : z ≤ 9223372036854775807) (xp : Option Addr) (xn xc : Nat) (o : List Nat) (ho : o.length = xn) (hB : BytesAt w xp o) (hxl : xn ≤ 1000000) :
    Calls Tryz.prog 29 #[.pointer (some ⟨R, 0, none⟩), .string s, .int .i64 z, .slice xp xn xc] w (RSEnd Fv w0 R room w (dWrite room s.data.toList z o ss)) := by
  obtain ⟨⟨sp, c, rs, h1, rfl, h3⟩, hg0⟩ := h
  exact (rwrite_calls h1 (Nat.zero_le _) s hs z hz64 xp xn xc o ho hB hxl (fun x hx => hc (x.1, x.2.s) (List.mem_map.2 ⟨x, hx, rfl⟩))).mono fun e w' hE => RSo.ended h3 hg0 hE
theorem scrash_calls (h : RSo Fv w0 w R room ss) (kp : Option Addr) (kn kc : Nat) (ks : List Int) (hks : ks.length = kn) (hI : IntsAt w kp ks) :
    Calls Tryz.prog 27 #[.pointer (some ⟨R, 0, none⟩), .slice kp kn kc] w fun e w' => e = .returned (.tuple #[]) ∧ RSo Fv w0 w' R room (crashS ks 0 ss) ∧ w.grownBy w' (some R) := by
  obtain ⟨⟨sp, c, rs, h1, rfl, h3⟩, hg0⟩ := h
  refine (rcrash_calls h1 (Nat.zero_le _) kp kn kc ks hks hI).mono ?_
  rintro e W ⟨rfl, rs', h2, hd⟩
  refine ⟨rfl, ?_, hd.grown⟩
  rw [← h2]
  exact RSo.done h3 hg0 hd
theorem snames_calls (h : RSo Fv w0 w R room ss) : Calls Tryz.prog 34 #[.pointer (some ⟨R, 0, none⟩)] w fun e w' => ∃ sp n c, e = .returned (.slice sp n c) ∧ ss.length = n ∧ OwnN w.heap.size w' sp c (ss.map (·.1)) ∧ RSo Fv w0 w' R room ss ∧ Below w.heap.size w w' := by
  obtain ⟨⟨sp, c, rs, h1, rfl, h3⟩, hg0⟩ := id h
  refine (rnames_calls h1).mono ?_
  rintro e W ⟨sp', n', c', rfl, hn, ho, hb⟩
  refine ⟨sp', n', c', rfl, by unfold rss; rw [List.length_map]; exact hn, ?_, h.below hb, hb⟩
  unfold rss
  rw [List.map_map]
  exact ho
theorem sused_calls (h : RSo Fv w0 w R room ss) : Calls Tryz.prog 36 #[.pointer (some ⟨R, 0, none⟩)] w fun e w' => e = .returned (.int .i64 (usedS ss : Int)) ∧ RSo Fv w0 w' R room ss ∧ Below w.heap.size w w' := by
  obtain ⟨⟨sp, c, rs, h1, rfl, h3⟩, hg0⟩ := id h
  refine (rused_calls h1).mono ?_
  rintro e W ⟨rfl, hb⟩
  exact ⟨rfl, h.below hb, hb⟩
theorem sread_calls (h : RSo Fv w0 w R room ss) (s : ByteArray) : Calls Tryz.prog 89 #[.pointer (some ⟨R, 0, none⟩), .string s] w fun e w' => ∃ sp n c x, e = .returned (.tuple #[.slice sp n c, .int .i64 x]) ∧ (nowL s.data.toList ss).length = n ∧ n ≤ 262144 ∧ Bx w.heap.size w' sp c (nowL s.data.toList ss) ∧ RSo Fv w0 w' R room ss ∧ Below w.heap.size w w' := by
  obtain ⟨⟨sp, c, rs, h1, rfl, h3⟩, hg0⟩ := id h
  cases hx : getS s.data.toList (rss rs) with
  | none =>
    refine (rread_no h1 s hx).mono ?_
    rintro e W ⟨rfl, rfl⟩
    have e0 : nowL s.data.toList (rss rs) = [] := by unfold nowL; rw [hx]; rfl
    rw [e0]
    exact ⟨none, 0, 0, 8, rfl, rfl, by omega, Bx.ofNil _ _, h, Below.refl _ _⟩
  | some x =>
    refine (rread_yes h1 s x hx).mono ?_
    rintro e W ⟨sp', n', c', rfl, hn, hX, hb⟩
    have e0 : nowL s.data.toList (rss rs) = x.now := by unfold nowL; rw [hx]; rfl
    rw [e0]
    have h8 : x.now.length ≤ 262144 := by
      rw [rss_get, Option.map_eq_some_iff] at hx
      obtain ⟨v, hv, rfl⟩ := hx
      exact (h1.own.dat _ (getS_some hv)).ok.synced.y8
    exact ⟨sp', n', c', 0, rfl, hn, by omega, hX, h.below hb, hb⟩
/-- What a call on the document's disk leaves of the program's. -/
theorem DAt.right {Av : Nat → Prop} (h : DAt Av base w d M room N ss) (hR : Av R) (hg : w.grownBy w' (some R)) : DAt (fun g => Av g ∨ (w.heap.size ≤ g ∧ g < w'.heap.size)) base w' d M room N ss := by
  obtain ⟨fs, h1, h2, h3⟩ := h.at_
  refine ⟨Nat.le_trans h.le hg.size, h.few, fs, h1.same (fun g hl hm => hg.block g hl (fun e => ?_)), h2, fun g hav => ?_⟩
  · have := Option.some.inj e
    subst this
    rcases hm with hm | hm
    · exact (h3 _ hR).2.1 hm
    · exact (h3 _ hR).2.2 hm
  · rcases hav with hav | ⟨g1, g2⟩
    · exact ⟨Nat.lt_of_lt_of_le (h3 g hav).1 hg.size, (h3 g hav).2⟩
    · refine ⟨g2, fun hm => ?_, fun hm => ?_⟩
      · have := (h1.mut_lt hm).2; omega
      · have := (h1.red_lt hm).2; omega
/-- Both disks; the blocks of Bv belong to neither. -/
structure TD (Bv : Nat → Prop) (base : Nat) (w : World) (d M R room N : Nat) (ss tt : Ds) : Prop where
  lowR : base ≤ R
  at_ : ∃ Fv, DAt (fun g => g = R ∨ Fv g ∨ Bv g) base w d M room N ss ∧ RAt Fv w R room tt ∧ ∀ g, Bv g → ¬ Fv g ∧ g ≠ R
theorem TD.later (h : TD Bv base w d M R room N ss tt) (hb : Below w.heap.size w w') : TD Bv base w' d M R room N ss tt := by
  obtain ⟨Fv, h1, h2, h3⟩ := h.at_
  exact ⟨h.lowR, Fv, h1.later hb, h2.later hb, h3⟩
theorem TD.le (h : TD Bv base w d M R room N ss tt) : base ≤ w.heap.size := by
  obtain ⟨Fv, h1, h2, h3⟩ := h.at_
  exact h1.le
theorem TD.sub {Cv : Nat → Prop} (h : TD Bv base w d M R room N ss tt) (hs : ∀ g, Cv g → Bv g) : TD Cv base w d M R room N ss tt := by
  obtain ⟨Fv, h1, h2, h3⟩ := h.at_
  exact ⟨h.lowR, Fv, h1.av (fun g hg => hg.imp id (fun q => q.imp id (hs g))), h2, fun g hg => h3 g (hs g hg)⟩
theorem TD.mono {N' : Nat} (h : TD Bv base w d M R room N ss tt) (hN : N ≤ N') (hf : N' ≤ 1000000) : TD Bv base w d M R room N' ss tt := by
  obtain ⟨Fv, h1, h2, h3⟩ := h.at_
  exact ⟨h.lowR, Fv, h1.mono hN hf, h2, h3⟩
/-- New blocks lie aside. -/
theorem TD.more (h : TD Bv base w d M R room N ss tt) (hb : Below w.heap.size w w') : TD (fun g => Bv g ∨ (w.heap.size ≤ g ∧ g < w'.heap.size)) base w' d M R room N ss tt := by
  obtain ⟨Fv, h1, h2, h3⟩ := h.at_
  refine ⟨h.lowR, fun g => Fv g ∧ g < w.heap.size, (h1.more hb).av (fun g hg => ?_), ?_, fun g hg => ?_⟩
  · rcases hg with hg | hg | hg | hg
    · exact .inl (.inl hg)
    · exact .inl (.inr (.inl hg.1))
    · exact .inl (.inr (.inr hg))
    · exact .inr hg
  · obtain ⟨sp, c, rs, q1, q2, q3⟩ := h2
    exact ⟨sp, c, rs, q1.later hb, q2, fun g hg => ⟨q3 g hg, (q1.own.lt hg).2⟩⟩
  · rcases hg with hg | hg
    · exact ⟨fun q => (h3 g hg).1 q.1, (h3 g hg).2⟩
    · have := h2.ltR
      exact ⟨fun q => by omega, by omega⟩
/-- Behind a call on the document's disk. -/
theorem TD.right (h : TD Bv base w d M R room N ss tt) {uu : Ds} (hk : ∀ Fv, RAt Fv w R room tt → RSo Fv w w' R room uu) : TD Bv base w' d M R room N ss uu ∧ Asd Bv base w w' := by
  obtain ⟨Fv, h1, h2, h3⟩ := h.at_
  have hs := hk Fv h2
  refine ⟨⟨h.lowR, fun g => Fv g ∨ (w.heap.size ≤ g ∧ g < w'.heap.size), (h1.right (.inl rfl) hs.grown).av (fun g hg => ?_), hs.at_, fun g hg => ⟨fun q => ?_, (h3 g hg).2⟩⟩, fun g hg => ?_, ?_⟩
  · rcases hg with hg | (hg | hg) | hg
    · exact .inl (.inl hg)
    · exact .inl (.inr (.inl hg))
    · exact .inr hg
    · exact .inl (.inr (.inr hg))
  · rcases q with q | q
    · exact (h3 g hg).1 q
    · have := h1.lt (g := g) (.inr (.inr hg)); omega
  · exact hs.grown.block g (h1.lt (.inr (.inr hg))) (fun e => (h3 g hg).2 (Option.some.inj e))
  · exact ⟨hs.grown.os, hs.grown.tape, hs.grown.output, hs.grown.size, fun g hg => hs.grown.block g (Nat.lt_of_lt_of_le hg h1.le) (fun e => by have h4 := Option.some.inj e; have h5 := h.lowR; omega)⟩
/-- Behind a call on the program's disk. -/
theorem TD.left (h : TD Bv base w d M R room N ss tt) {N' : Nat} {uu : Ds} (hk : ∀ Av, DAt Av base w d M room N ss → DAt Av base w' d M room N' uu ∧ Asd Av base w w') : TD Bv base w' d M R room N' uu tt ∧ Asd Bv base w w' := by
  obtain ⟨Fv, h1, h2, h3⟩ := h.at_
  obtain ⟨k1, k2⟩ := hk _ h1
  exact ⟨⟨h.lowR, Fv, k1, h2.same (k2.av R (.inl rfl)) (fun g hg => k2.av g (.inr (.inl hg))), h3⟩, k2.sub (fun g hg => .inr (.inr hg))⟩
theorem TD.fewC (h : TD Bv base w d M R room N ss tt) : FewC N ss := by
  obtain ⟨Fv, h1, h2, h3⟩ := h.at_
  obtain ⟨fs, q1, rfl, q3⟩ := h1.at_
  intro x hx
  unfold sps at hx
  obtain ⟨y, hy, rfl⟩ := List.mem_map.1 hx
  have := (q1.ok y hy).few
  show (y.2.2.xs.map (·.1)).length ≤ N
  rw [List.length_map]
  exact this
end
end Go.Proofs.YtagncghpfdjkmaaGreatDoor
end
/- Snapshots: the document's Save (written by wip/mksrv.py). -/
section
namespace Go.Proofs.YtagncghpfdjkmaaGreatDoor
open Go.ChangeShapes Go.WideShapes Go.ChangeAt Go.RowKit
set_option linter.unusedVariables false

theorem numRw_snap (s : Nm) : numRw snapW s = numS s := numRw_uni (fun s h => by obtain ⟨h1, h2⟩ := numS_is (s := s) rfl h; exact ⟨h1, h2⟩) (fun k h1 h2 => numS_snNm k h1 h2)
/-- Names are short. -/
def NmOk (ss : Ds) : Prop := ∀ x ∈ ss, x.1.length ≤ 64
theorem NmOk.put {k : Nm} {v : Sp} {ss : Ds} (hr : Rises ss) (h : NmOk ss) (hk : k.length ≤ 64) : NmOk (putF k v ss) := fun x hx => by
  rcases (mem_putF hr x).1 hx with rfl | ⟨hx, _⟩
  · exact hk
  · exact h x hx
theorem NmOk.del {k : Nm} {ss : Ds} (h : NmOk ss) : NmOk (delF k ss) := fun x hx => h x ((mem_delF x).1 hx).1
theorem nm_write {room : Nat} {k : Nm} {z : Int} {o : List Nat} {ss : Ds} (hr : Rises ss) (h : NmOk ss) (hk : k.length ≤ 64) : NmOk (dWrite room k z o ss).2 := by
  unfold dWrite
  repeat (split; exact h)
  exact h.put hr hk
theorem nm_sync {k : Nm} {ss : Ds} (hr : Rises ss) (h : NmOk ss) (hk : k.length ≤ 64) : NmOk (dSync k ss).2 := by
  unfold dSync
  split
  · exact h
  · exact h.put hr hk
theorem rise_sync {k : Nm} {ss : Ds} (hr : Rises ss) : Rises (dSync k ss).2 := by
  unfold dSync
  split
  · exact hr
  · exact hr.put _ _
theorem nm_rename {a b : Nm} {ss : Ds} (hr : Rises ss) (h : NmOk ss) (hb : b.length ≤ 64) : NmOk (dRename a b ss).2 := by
  unfold dRename
  split
  · exact h
  · split
    · exact h.del.put (hr.del _) hb
    · exact h
theorem FewC.del {k : Nm} {n : Nat} {ss : Ds} (h : FewC n ss) : FewC n (delF k ss) := fun x hx => h x ((mem_delF x).1 hx).1
theorem grown_later {w w' : World} {R j : Nat} {o : Obj} (g : w.grownBy w' (some R)) (h : w.heap[j]? = some o) (hne : j ≠ R) : w'.heap[j]? = some o := (g.block j (Array.getElem?_eq_some_iff.1 h).1 (fun e => hne (Option.some.inj e))).trans h
set_option maxRecDepth 20000 in
set_option maxHeartbeats 16000000 in
theorem rsave_calls {Fv : Nat → Prop} {w : World} {R room : Nat} {ss : Ds} (h : RAt Fv w R room ss) (hc : FewC 300 ss) (hnm : NmOk ss) (s : Sn) (sh : SnH) (hs : SnAt w s sh) :
    Calls Tryz.prog 25 #[.pointer (some ⟨R, 0, none⟩), .agg (snRow s sh)] w (RSEnd Fv w R room w (rSave room s ss)) := by
  have U1 := hide ((Below.refl w.heap.size w).alloc (Nat.le_refl _) (.cells (snRow s sh) 29))
  have X1 := hide (heap_new w (.cells (snRow s sh) 29))
  have PC := hide (rputS_calls s sh (w.alloc (.cells (snRow s sh) 29)) (hs.later (unhide U1)))
  have RW := hide (show R < w.heap.size from h.ltR)
  have H := hide (RSo.start h)
  have RI := hide h.rise
  have FC := hide hc
  have NM := hide hnm
  unfold snRow at U1 X1 PC ⊢
  clear h hc hnm hs
  have x0 := box_cell (unhide X1) 0 _ rfl
  have x1 := box_cell (unhide X1) 1 _ rfl
  have x2 := box_cell (unhide X1) 2 _ rfl
  have x3 := box_cell (unhide X1) 3 _ rfl
  have x4 := box_cell (unhide X1) 4 _ rfl
  go_enter Tryz.func25, Tryz.ntmps25
  go_wp2_with fail
  clear x0 x1 x2 x3 x4
  have WS := hide (show (w.alloc (.cells #[.int .i64 s.i, .int .i64 s.t, .slice sh.va s.v.length sh.vc, .slice sh.la s.l.length sh.lc, .slice sh.dp s.d.length sh.dc] 29)).heap.size = w.heap.size + 1 by simp)
  generalize w.alloc _ = W1 at *
  generalize hD : w.heap.size = D at *
  have HD := hide hD
  clear hD
  go_at_call 16
  refine (unhide PC).mono ?_
  rintro e V1 ⟨v1, hcase⟩
  have V1L := hide (show W1.heap.size ≤ V1.heap.size from v1.size)
  have H1 := hide (((unhide H).below (by rw [unhide HD]; exact unhide U1)).below v1)
  have X2 := hide (later_block v1 (unhide X1))
  have DR := hide (show D ≠ R by have := unhide RW; omega)
  clear PC v1
  rcases hcase with ⟨h0, rfl⟩ | ⟨h0, sp, n, c, rfl, hn, hob⟩
  · as_aux_lemma =>
    have FF := hide (show RSEnd Fv w R room w (rSave room s ss) (.returned (.int .i64 ((snE s : Nat) : Int))) V1 from by
      unfold rSave
      rw [if_pos h0]
      exact ⟨rfl, unhide H1, (unhide H1).grown⟩)
    have y1 : ¬ ((snE s : Nat) : Int) = 0 := by omega
    have y2 : (((snE s : Nat) : Int) == 0) = false := by simp [h0]
    generalize ((snE s : Nat) : Int) = ei at *
    go_wp2_with fail
    go_ret
    exact unhide FF
  have OB := hide hob
  have HNL := hide hn
  have LB := hide (snB_len h0)
  have H0 := hide h0
  have SI := hide (snE_may h0).1
  have C1 := hide (sremove_calls (unhide H1) (str spareS))
  rw [str_list] at C1
  have RS := hide (show rSave room s ss = (if (dWrite room spareS 0 (snB s) (dRemove spareS ss).2).1 ≠ 0 then ((dWrite room spareS 0 (snB s) (dRemove spareS ss).2).1, (dRemove spareS (dWrite room spareS 0 (snB s) (dRemove spareS ss).2).2).2) else
    if (dRename spareS (snNm s.i.toNat) (dSync spareS (dWrite room spareS 0 (snB s) (dRemove spareS ss).2).2).2).1 ≠ 0 then ((dRename spareS (snNm s.i.toNat) (dSync spareS (dWrite room spareS 0 (snB s) (dRemove spareS ss).2).2).2).1, (dRemove spareS (dRename spareS (snNm s.i.toNat) (dSync spareS (dWrite room spareS 0 (snB s) (dRemove spareS ss).2).2).2).2).2) else
    (0, remN s.i.toNat ((dRename spareS (snNm s.i.toNat) (dSync spareS (dWrite room spareS 0 (snB s) (dRemove spareS ss).2).2).2).2.map (·.1)) (dRename spareS (snNm s.i.toNat) (dSync spareS (dWrite room spareS 0 (snB s) (dRemove spareS ss).2).2).2).2)) from by
    unfold rSave
    rw [if_neg (by omega)])
  have R0 := hide (show Rises (dRemove spareS ss).2 from by rw [dRemove_2]; exact (unhide RI).del _)
  have N0 := hide (show NmOk (dRemove spareS ss).2 from by rw [dRemove_2]; exact (unhide NM).del)
  have F0 := hide (show FewC 300 (dRemove spareS ss).2 from by rw [dRemove_2]; exact (unhide FC).del)
  have R1 := hide (dWrite_rise (room := room) (k := spareS) (z := 0) (o := snB s) (unhide R0))
  have N1 := hide (nm_write (room := room) (k := spareS) (z := 0) (o := snB s) (unhide R0) (unhide N0) (by decide))
  clear h0 hn hob H1
  generalize dRemove spareS ss = A at *
  obtain ⟨a1, a2⟩ := A
  try dsimp only at *
  go_wp2_with fail
  go_at_call 72
  refine (unhide C1).mono ?_
  rintro e V2 ⟨rfl, h2, g2⟩
  dsimp only at h2
  have BO2 := hide ((unhide OB).bytes.far g2 (fun b off e => by
    have h1 := (unhide OB).adr ⟨b, off, none⟩ e
    have h3 : W1.heap.size ≤ b := h1
    have h4 := unhide WS
    have h5 := unhide RW
    omega))
  have X3 := hide (grown_later g2 (unhide X2) (unhide DR))
  have C2 := hide (swrite_calls h2 (unhide F0) (str spareS) (by rw [str_size]; decide) 0 (by decide) sp n c (snB s) (unhide HNL) (unhide BO2) (by have h1 := unhide LB; have h2 := unhide HNL; omega))
  rw [str_list] at C2
  clear h2 g2 C1 X2
  generalize dWrite room spareS 0 (snB s) a2 = B at *
  obtain ⟨b1, b2⟩ := B
  try dsimp only at *
  go_wp2_with fail
  go_at_call 29
  refine (unhide C2).mono ?_
  rintro e V3 ⟨rfl, h3, g3⟩
  dsimp only at h3 ⊢
  have X4 := hide (grown_later g3 (unhide X3) (unhide DR))
  have H3 := hide h3
  clear h3 g3 C2 X3
  by_cases hb0 : b1 ≠ 0
  · as_aux_lemma =>
    rw [if_pos hb0] at RS
    have C3 := hide (sremove_calls (unhide H3) (str spareS))
    rw [str_list] at C3
    have y1 : ¬ ((b1 : Nat) : Int) = 0 := by omega
    have y2 : (((b1 : Nat) : Int) == 0) = false := by simp; omega
    have RS2 := hide (unhide RS)
    have FF := hide (show ∀ W, RSo Fv w W R room (dRemove spareS b2).2 → RSEnd Fv w R room w (rSave room s ss) (.returned (.int .i64 ((b1 : Nat) : Int))) W from fun W q => by
      rw [unhide RS]
      exact ⟨rfl, q, q.grown⟩)
    generalize ((b1 : Nat) : Int) = ei at *
    clear hb0
    go_wp2_with fail
    go_at_call 72
    refine (unhide C3).mono ?_
    rintro e V4 ⟨rfl, h4, g4⟩
    have FF2 := hide (unhide FF V4 h4)
    clear h4 g4 FF
    go_wp2_with fail
    go_ret
    exact unhide FF2
  have hb1 : b1 = 0 := by omega
  subst hb1
  rw [if_neg (by omega)] at RS
  rw [show ((0 : Nat) : Int) = 0 from rfl]
  have C3 := hide (ssync_calls (unhide H3) (str spareS))
  rw [str_list] at C3
  have R2 := hide (rise_sync (k := spareS) (unhide R1))
  have N2 := hide (nm_sync (k := spareS) (unhide R1) (unhide N1) (by decide))
  generalize dSync spareS b2 = CC at *
  obtain ⟨c1, c2⟩ := CC
  try dsimp only at *
  clear hb0
  go_wp2_with fail
  go_at_call 73
  refine (unhide C3).mono ?_
  rintro e V4 ⟨rfl, h4, g4⟩
  dsimp only at h4
  have X5 := hide (grown_later g4 (unhide X4) (unhide DR))
  obtain ⟨k, hk⟩ : ∃ k : Nat, s.i.toNat = k := ⟨_, rfl⟩
  have KI := hide (show s.i = (k : Int) by have := unhide SI; omega)
  rw [hk] at RS
  have hk40 : k ≤ 1099511627776 := by have := unhide SI; omega
  have DC := hide (digits_calls k (by omega))
  have H4 := hide h4
  have z0 := box_cell (unhide X5) 0 _ rfl
  rw [unhide KI] at z0
  have NE := hide (show (⟨#[115, 110, 97, 112, 45]⟩ : ByteArray) ++ str (Lib.decDigits k) = str (snNm k) from str_append snapW _)
  have NS := hide (show (snNm k).length ≤ 18 from snNm_len k (by omega))
  have hsz : (str (Lib.decDigits k)).size ≤ 13 := by rw [str_size]; exact dec_len 12 k (by omega)
  have N3 := hide (nm_rename (a := spareS) (b := snNm k) (unhide R2) (unhide N2) (by have := unhide NS; omega))
  clear h4 g4 C3 X4 hk
  go_wp2_with fail
  go_at_call 75
  refine (unhide DC V4).mono ?_
  rintro e V5 ⟨rfl, v5⟩
  have H5 := hide ((unhide H4).below v5)
  have X6 := hide (later_block v5 (unhide X5))
  have C4 := hide (srename_calls (unhide H5) (str spareS) (str (snNm k)) (by rw [str_size]; have := unhide NS; simp only [maxLen]; omega))
  rw [str_list, str_list] at C4
  clear v5 DC X5 z0
  generalize dRename spareS (snNm k) c2 = DD at *
  obtain ⟨d1, d2⟩ := DD
  try dsimp only at *
  generalize str (Lib.decDigits k) = dk at *
  have hz5 : ¬ 9223372036854775807 < 5 + dk.size := by omega
  go_wp2_with fail
  first | rw [unhide NE] | skip
  go_at_call 74
  refine (unhide C4).mono ?_
  rintro e V6 ⟨rfl, h6, g6⟩
  dsimp only at h6 ⊢
  have X7 := hide (grown_later g6 (unhide X6) (unhide DR))
  have H6 := hide h6
  clear h6 g6 C4 X6 hz5 hsz
  by_cases hd0 : d1 ≠ 0
  · as_aux_lemma =>
    rw [if_pos hd0] at RS
    have C5 := hide (sremove_calls (unhide H6) (str spareS))
    rw [str_list] at C5
    have y1 : ¬ ((d1 : Nat) : Int) = 0 := by omega
    have y2 : (((d1 : Nat) : Int) == 0) = false := by simp; omega
    have FF := hide (show ∀ W, RSo Fv w W R room (dRemove spareS d2).2 → RSEnd Fv w R room w (rSave room s ss) (.returned (.int .i64 ((d1 : Nat) : Int))) W from fun W q => by
      rw [unhide RS]
      exact ⟨rfl, q, q.grown⟩)
    generalize ((d1 : Nat) : Int) = ei at *
    clear hd0
    go_wp2_with fail
    go_at_call 72
    refine (unhide C5).mono ?_
    rintro e V7 ⟨rfl, h7, g7⟩
    have FF2 := hide (unhide FF V7 h7)
    clear h7 g7 FF
    go_wp2_with fail
    go_ret
    exact unhide FF2
  have hd1 : d1 = 0 := by omega
  subst hd1
  rw [if_neg (by omega)] at RS
  rw [show ((0 : Nat) : Int) = 0 from rfl]
  have C5 := hide (snames_calls (unhide H6))
  clear hd0
  go_wp2_with fail
  go_at_call 34
  refine (unhide C5).mono ?_
  rintro e V7 ⟨np, m, nc, rfl, hm, ho, h7, v7⟩
  have X8 := hide (later_block v7 (unhide X7))
  have ON := hide ho
  have H7 := hide h7
  have VL := hide (show R < V6.heap.size from (unhide H6).at_.ltR)
  have FIN := hide (show ∀ W, RSo Fv w W R room (remN k (d2.map (·.1)) d2) → RSEnd Fv w R room w (rSave room s ss) (.returned (.int .i64 0)) W from fun W q => by
    rw [unhide RS]
    exact ⟨rfl, q, q.grown⟩)
  have LN := hide (show (d2.map (·.1)).length = m by rw [List.length_map]; exact hm)
  have NL := hide (show ∀ x ∈ d2.map (·.1), x.length ≤ 64 from fun x hx => by
    obtain ⟨y, hy, rfl⟩ := List.mem_map.1 hx
    exact unhide N3 y hy)
  have hm16 : m ≤ 16 := by have := (unhide H6).at_.len; omega
  clear ho h7 v7 C5 X7 hm H6 H5 H4 H3 RS OB BO2
  generalize d2.map (·.1) = nms at *
  go_wp2_with fail
  go_loopw [8] (fun i wr => ∃ (j : Nat) (cur : Ds), j ≤ m ∧ i = .int .i64 (j : Int) ∧ Hid (RSo Fv w wr R room cur) ∧ Hid (remN k (nms.drop j) cur = remN k nms d2) ∧ Hid (OwnN V6.heap.size wr np nc nms) ∧ Hid (wr.heap[D]? = some (.cells #[.int .i64 s.i, .int .i64 s.t, .slice sh.va s.v.length sh.vc, .slice sh.la s.l.length sh.lc, .slice sh.dp s.d.length sh.dc] 29 (0, 0)))) (fun i _ => m - (intOf i).toNat)
  case atStart => exact ⟨0, d2, by omega, rfl, H7, hide rfl, ON, X8⟩
  case round =>
    obtain ⟨j, cur, hj, rfl, hR, hE, hO, hX⟩ := hrel
    clear H7 ON X8
    by_cases hjm : j < m
    · have y0 : (0 : Int) ≤ (j : Int) := by omega
      have y1 : (j : Int) < (m : Int) := by omega
      have hjl : j < nms.length := by rw [unhide LN]; exact hjm
      obtain ⟨g, rfl, q0⟩ := (unhide hO).cell j hjl
      have OG := hide (show g ≠ R from fun e => by have h1 := ((unhide hO).blk_is g rfl).1; have h2 := unhide VL; omega)
      have DJ := hide (show nms.drop j = nms[j] :: nms.drop (j + 1) from List.drop_eq_getElem_cons hjl)
      have NC := hide (numbered_calls snapW nms[j] (by decide) (unhide NL _ (List.getElem_mem hjl)) wr)
      rw [numRw_snap] at NC
      rw [unhide DJ, remN] at hE
      have CLJ := hide (show ∀ V, Below wr.heap.size wr V → V.cell? ⟨g, j, none⟩ = some (.string (str nms[j])) from fun V u => cell_later u q0)
      generalize nms[j] = nj at *
      have hnk := numS_le nj
      generalize hq : numS nj = q at *
      go_wp2_with fail
      go_at_call 76
      refine (unhide NC).mono ?_
      rintro e V8 ⟨rfl, v8⟩
      have R8 := hide ((unhide hR).below v8)
      have O8 := hide ((unhide hO).later v8)
      have X9 := hide (later_block v8 (unhide hX))
      have q8 := unhide CLJ V8 v8
      have b0 := box_cell (unhide X9) 0 _ rfl
      rw [unhide KI] at b0
      clear v8 NC hR hO hX q0 CLJ
      by_cases hqq : 0 < q ∧ q < k
      · as_aux_lemma =>
        rw [if_pos hqq] at hE
        have y2 : (0 : Int) < (q : Int) := by omega
        have y3 : (q : Int) < (k : Int) := by omega
        have C6 := hide (sremove_calls (unhide R8) (str nj))
        rw [str_list] at C6
        clear hqq
        go_wp2_with fail
        go_at_call 72
        refine (unhide C6).mono ?_
        rintro e V9 ⟨rfl, h9, g9⟩
        have R9 := hide h9
        have O9 := hide ((unhide O8).same (fun x hx => g9.block x ((unhide O8).blk_is x hx).2.1 (fun e => by have h1 := ((unhide O8).blk_is x hx).1; have h2 := Option.some.inj e; have h3 := unhide VL; omega)))
        have X10 := hide (grown_later g9 (unhide X9) (unhide DR))
        clear h9 g9 C6 q8 b0
        go_wp2_with fail
        exact ⟨⟨j + 1, _, by omega, by go_num, R9, hE, O9, X10⟩, by simp [intOf]; omega⟩
      · as_aux_lemma =>
        rw [if_neg hqq] at hE
        by_cases hq0 : 0 < q
        · have y2 : (0 : Int) < (q : Int) := by omega
          have y3 : ¬ (q : Int) < (k : Int) := by omega
          clear hqq
          go_wp2_with fail
          exact ⟨⟨j + 1, cur, by omega, by go_num, R8, hE, O8, X9⟩, by simp [intOf]; omega⟩
        · have y2 : ¬ (0 : Int) < (q : Int) := by omega
          clear hqq
          go_wp2_with fail
          exact ⟨⟨j + 1, cur, by omega, by go_num, R8, hE, O8, X9⟩, by simp [intOf]; omega⟩
    · as_aux_lemma =>
      have y1 : ¬ (j : Int) < (m : Int) := by omega
      have DN := hide (show nms.drop j = [] from List.drop_eq_nil_of_le (by rw [unhide LN]; omega))
      rw [unhide DN, remN] at hE
      rw [unhide hE] at hR
      have FF := hide (unhide FIN wr (unhide hR))
      go_wp2_with fail
      go_ret
      exact unhide FF
end Go.Proofs.YtagncghpfdjkmaaGreatDoor
end
