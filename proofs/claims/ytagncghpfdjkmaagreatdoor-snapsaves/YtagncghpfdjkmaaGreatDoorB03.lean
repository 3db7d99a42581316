/- Disk: sync, cut, write. -/
import Derived.Test.YtagncghpfdjkmaaGreatDoorB02
section
namespace Go.Proofs.YtagncghpfdjkmaaGreatDoor
open Go.ChangeShapes Go.WideShapes Go.ChangeAt Go.RowKit

def Fil.synced (f : Fil) (yp : Option Addr) : Fil := { f with yp := yp, yc := f.b.length, y := f.b, la := true, cp := none, cc := 0, xs := [] }
theorem Bx.old_ne {base : Nat} {w V : World} {sp dp : Option Addr} {c dc : Nat} {l d : List Nat} (h : Bx base w sp c l) (k : Bx w.heap.size V dp dc d) : ∀ g, blk sp = some g → blk dp ≠ some g := by
  intro g hg hd
  have := (h.isT g hg).2.1
  have := (k.isT g hd).1
  omega
/-- The three stores of sync. -/
theorem FileAt.sync3 {base : Nat} {w V : World} {F : Nat} {f : Fil} (h : FileAt base w F f) (hbs : base ≤ w.heap.size) (hb : Below w.heap.size w V) (dp : Option Addr) (hd : Bx w.heap.size V dp f.b.length f.b) :
    FileAt base (V.setCell ⟨F, 1, none⟩ (.slice dp f.b.length f.b.length)) F { f with yp := dp, yc := f.b.length, y := f.b } ∧
    FileAt base ((V.setCell ⟨F, 1, none⟩ (.slice dp f.b.length f.b.length)).setCell ⟨F, 2, none⟩ (.bool true)) F { f with yp := dp, yc := f.b.length, y := f.b, la := true } ∧
    FileAt base (((V.setCell ⟨F, 1, none⟩ (.slice dp f.b.length f.b.length)).setCell ⟨F, 2, none⟩ (.bool true)).setCell ⟨F, 3, none⟩ (.slice none 0 0)) F (f.synced dp) ∧
    FGrew F w f (((V.setCell ⟨F, 1, none⟩ (.slice dp f.b.length f.b.length)).setCell ⟨F, 2, none⟩ (.bool true)).setCell ⟨F, 3, none⟩ (.slice none 0 0)) (f.synced dp) := by
  have hV := h.later hb
  have n1 : ∀ g, blk f.bp = some g → blk dp ≠ some g := h.bytes.old_ne hd
  have H1 : FileAt base (V.setCell ⟨F, 1, none⟩ (.slice dp f.b.length f.b.length)) F { f with yp := dp, yc := f.b.length, y := f.b } :=
    hV.set 1 _ _ (by simp [Fil.row]) hV.bytes (hd.mono hbs) hV.chs n1 (fun x hx g hg => ⟨(h.far x hx g hg).1, (h.chs.dat x hx).old_ne hd g hg⟩)
  have H2 := H1.set 2 (.bool true) { f with yp := dp, yc := f.b.length, y := f.b, la := true } (by simp [Fil.row]) H1.bytes H1.sure H1.chs H1.apart H1.far
  have H3 := H2.set 3 (.slice none 0 0) (f.synced dp) (by simp [Fil.row, Fil.synced]) H2.bytes H2.sure (OwnC.ofNil _ _) H2.apart (by simp [Fil.synced])
  refine ⟨H1, H2, H3, ⟨hb.os, hb.tape, hb.output, ?_, fun i hi hn => ?_, fun g hg => ?_, fun g hg => ?_⟩⟩
  · simpa [World.setCell] using hb.size
  · have hne : i ≠ F := fun e => hn (.inl e)
    rw [heap_setCell_other _ ⟨F, 3, none⟩ i _ hne, heap_setCell_other _ ⟨F, 2, none⟩ i _ hne, heap_setCell_other _ ⟨F, 1, none⟩ i _ hne]
    exact hb.block i hi
  · rcases hg with rfl | hg | hg | hg
    · exact .inl (.inl rfl)
    · exact .inl (.inr (.inl hg))
    · exact .inr (hd.isT g hg).1
    · cases hg
  · obtain ⟨x, hx, _⟩ := hg
    simp [Fil.synced] at hx
set_option maxRecDepth 20000 in
set_option maxHeartbeats 40000000 in
theorem sync_calls (base : Nat) (w : World) (F : Nat) (f : Fil) (h : FileAt base w F f) (hl : f.b.length ≤ 140737488355328) (hbs : base ≤ w.heap.size) :
    Calls Tryz.prog 93 #[.pointer (some ⟨F, 0, none⟩)] w fun e w' => e = .returned (.tuple #[]) ∧ ∃ yp, FileAt base w' F (f.synced yp) ∧ FGrew F w f w' (f.synced yp) := by
  have c0 := h.c0
  have HF := hide h
  have BB := hide h.bytes.bytes
  have ZZ := hide h.bytes.nil0
  have HS := hide (fun (V : World) (hb : Below w.heap.size w V) => h.sync3 (V := V) hbs hb)
  generalize hn : f.b.length = n at *
  have HN := hide hn
  clear h hbs hn
  go_enter Tryz.func93, Tryz.ntmps93
  go_wp2_with (go_at_call 116; refine (fresh_calls f.bp n f.bc f.b _ (unhide HN) hl (unhide BB) (unhide ZZ)).mono ?_; rintro e1 V ⟨dp, rfl, hdo, hbV⟩; obtain ⟨k1, k2, k3, k4⟩ := unhide HS V hbV dp hdo; have v1 := ((unhide HF).later hbV).c1; have x1 := ((unhide HF).later hbV).fz 1; have v2 := k1.c2; have x2 := k1.fz 2; have v3 := k2.c3; have x3 := k2.fz 3; have K3 := hide k3; have K4 := hide k4; clear k1 k2 k3 k4 hdo hbV)
  go_end0
  exact ⟨rfl, dp, unhide K3, unhide K4⟩
theorem step_appendC {w : World} {ops : Array Oper} {o : Oper} {a : Act} {K : Act → World → Prop} {Q : Exit → Act → World → Prop} {E : Prop} (hgd : o.guard = none) (s x : Operand)
    (ho : o.op = .call { callee := .builtin .append, args := #[s, x], argTypes := #[124, 124] })
    (base : Nat) (sp : Option Addr) (n c : Nat) (xs : List ChH) (hs : a.eval s = .slice sp n c) (hn : xs.length = n) (hown : OwnC base w sp c xs) (B : Nat) (e : ChH) (hx : a.eval x = .slice (some ⟨B, 0, none⟩) 1 1)
    (hB : w.heap[B]? = some (.cells (chRow e).toArray 164 (0, 0))) (hd : Bx base w e.2.1 e.2.2 e.1.2.2) (hlen : (n + 1) * 40 ≤ 140737488355328) (hbase : base ≤ w.heap.size)
    (hk : ∀ sp' c' w', OwnC base w' sp' c' (xs ++ [e]) → Grew w sp w' sp' → K (a.put o.dst (.slice sp' (n + 1) c')) w') :
    if Region.wanted o (yielded ops a.tmps) = true then Oper.wp Tryz.prog o a w K Q else E := by
  subst hn
  have hw : Region.wanted o (yielded ops a.tmps) = true := by simp [Region.wanted, hgd]
  rw [if_pos hw]
  obtain ⟨sp', c', w', hrun, h1, h2⟩ := run_appendC hown B e hB hd hlen hbase o.type
  unfold Oper.wp
  simp [execOp, ho, resolve, invoke, builtin, hs, hx, hrun, Result.andThen]
  exact hk sp' c' w' h1 h2
/-- A file whose own block is as told, one cell of it stored. -/
theorem FileAt.ofSet {base : Nat} {w : World} {F : Nat} (f : Fil) (hbox : w.heap[F]? = some (.cells f.row 126 (0, 0))) (hlow : base ≤ F) (k : Nat) (v : Value) (f' : Fil) (hr : f.row.setIfInBounds k v = f'.row) (hB : Bx base w f'.bp f'.bc f'.b) (hY : Bx base w f'.yp f'.yc f'.y) (hC : OwnC base w f'.cp f'.cc f'.xs)
    (ha : ∀ g, blk f'.bp = some g → blk f'.yp ≠ some g) (hf : ∀ x ∈ f'.xs, ∀ g, blk x.2.1 = some g → blk f'.bp ≠ some g ∧ blk f'.yp ≠ some g) : FileAt base (w.setCell ⟨F, k, none⟩ v) F f' := by
  have hg := grown_set w F k v
  refine ⟨?_, hB.grownNe hg (fun g hs e => hB.ne_block hbox (by decide) (by rw [hs, Option.some.inj e])), hY.grownNe hg (fun g hs e => hY.ne_block hbox (by decide) (by rw [hs, Option.some.inj e])), hC.far hg hbox (by decide) (by decide), hlow, ha, hf⟩
  rw [← hr]
  exact heap_setCell_same w F k _ 126 v hbox
def Fil.more (f : Fil) (cp : Option Addr) (cc : Nat) (x : ChH) : Fil := { f with cp := cp, cc := cc, xs := f.xs ++ [x] }
/-- One more change. -/
theorem FileAt.added {base : Nat} {W V W2 : World} {F : Nat} {f : Fil} (h : FileAt base W F f) (hb : Below W.heap.size W V) (x : ChH) (hx : ∀ g, blk x.2.1 = some g → W.heap.size ≤ g) (cp' : Option Addr) (cc' : Nat) (hC : OwnC base W2 cp' cc' (f.xs ++ [x])) (hG : Grew V f.cp W2 cp') :
    W2.cell? ⟨F, 3, none⟩ = some (.slice f.cp f.xs.length f.cc) ∧ W2.frozen? ⟨F, 3, none⟩ = false ∧
    FileAt base (W2.setCell ⟨F, 3, none⟩ (.slice cp' (f.xs.length + 1) cc')) F (f.more cp' cc' x) ∧ FGrew F W f (W2.setCell ⟨F, 3, none⟩ (.slice cp' (f.xs.length + 1) cc')) (f.more cp' cc' x) := by
  have hV := h.later hb
  have hbox : W2.heap[F]? = some (.cells f.row 126 (0, 0)) := (hG.grown.block F hV.ltF (fun e => hV.chs.ne_block hV.box (by decide) e.symm)).trans hV.box
  refine ⟨fcell hbox 3 _ (by simp [Fil.row]), ffree hbox 3, ?_, ?_⟩
  · refine FileAt.ofSet f hbox h.low 3 _ (f.more cp' cc' x) (by simp [Fil.row, Fil.more]) (hV.bytes.grownNe hG.grown (hV.bytes.ne_row hV.chs)) (hV.sure.grownNe hG.grown (hV.sure.ne_row hV.chs)) hC h.apart (fun z hz g hg => ?_)
    rcases List.mem_append.1 hz with hz | hz
    · exact h.far z hz g hg
    · rw [List.mem_singleton] at hz
      subst hz
      have h1 := hx g hg
      exact ⟨fun e => by have := (h.bytes.isT g e).2.1; omega, fun e => by have := (h.sure.isT g e).2.1; omega⟩
  · refine ⟨hG.grown.os.trans hb.os, hG.grown.tape.trans hb.tape, hG.grown.output.trans hb.output, ?_, fun i hi hn => ?_, fun g hg => ?_, fun g hg => ?_⟩
    · have := Nat.le_trans hb.size hG.grown.size
      simpa [World.setCell] using this
    · rw [heap_setCell_other _ ⟨F, 3, none⟩ i _ (fun e => hn (.inl e))]
      exact (hG.grown.block i (Nat.lt_of_lt_of_le hi hb.size) (fun e => hn (.inr (.inr (.inr e.symm))))).trans (hb.block i hi)
    · rcases hg with rfl | hg | hg | hg
      · exact .inl (.inl rfl)
      · exact .inl (.inr (.inl hg))
      · exact .inl (.inr (.inr (.inl hg)))
      · rcases hG.lies g hg with h1 | h1
        · exact .inl (.inr (.inr (.inr h1)))
        · exact .inr (Nat.le_trans hb.size h1)
    · obtain ⟨z, hz, hg⟩ := hg
      rcases List.mem_append.1 hz with hz | hz
      · exact .inl ⟨z, hz, hg⟩
      · rw [List.mem_singleton] at hz
        subst hz
        exact .inr (hx g hg)
def Fil.shorter (f : Fil) (k : Nat) : Fil := { f with b := f.b.take k }
theorem FileAt.shorter {base : Nat} {w : World} {F : Nat} {f : Fil} (h : FileAt base w F f) (k : Nat) (hk : k ≤ f.b.length) :
    FileAt base (w.setCell ⟨F, 0, none⟩ (.slice f.bp k f.bc)) F (f.shorter k) ∧ FGrew F w f (w.setCell ⟨F, 0, none⟩ (.slice f.bp k f.bc)) (f.shorter k) := by
  have hl : (f.b.take k).length = k := by rw [List.length_take]; omega
  refine ⟨h.set 0 _ (f.shorter k) (by simp [Fil.row, Fil.shorter]; omega) (h.bytes.cut k f.bc hk (Nat.le_trans hk h.bytes.cap.1) (Nat.le_refl _)) h.sure h.chs h.apart h.far, ⟨rfl, rfl, rfl, ?_, fun i hi hn => ?_, fun _ hg => .inl hg, fun _ hg => .inl hg⟩⟩
  · simp [World.setCell]
  · exact heap_setCell_other _ ⟨F, 0, none⟩ i _ (fun e => hn (.inl e))
end Go.Proofs.YtagncghpfdjkmaaGreatDoor
end
/- Disk: write. -/
section
namespace Go.Proofs.YtagncghpfdjkmaaGreatDoor
open Go.ChangeShapes Go.WideShapes Go.ChangeAt Go.RowKit

def Fil.over (f : Fil) (bp : Option Addr) (bc : Nat) (b : List Nat) : Fil := { f with bp := bp, bc := bc, b := b }
theorem FileAt.over {base : Nat} {w V : World} {F : Nat} {f : Fil} (h : FileAt base w F f) (bp : Option Addr) (bc : Nat) (b : List Nat) (hX : Bx base V bp bc b) (hG : Grew w f.bp V bp) :
    V.cell? ⟨F, 0, none⟩ = some (.slice f.bp f.b.length f.bc) ∧ V.frozen? ⟨F, 0, none⟩ = false ∧
    FileAt base (V.setCell ⟨F, 0, none⟩ (.slice bp b.length bc)) F (f.over bp bc b) ∧ FGrew F w f (V.setCell ⟨F, 0, none⟩ (.slice bp b.length bc)) (f.over bp bc b) := by
  have hbox : V.heap[F]? = some (.cells f.row 126 (0, 0)) := (hG.grown.block F h.ltF (fun e => h.bytes.ne_block h.box (by decide) e.symm)).trans h.box
  have n1 : ∀ {b2 : Nat} {sp : Option Addr} {c : Nat} {l : List Nat}, Bx b2 w sp c l → (∀ g, blk sp = some g → blk f.bp ≠ some g) → ∀ g, blk bp = some g → blk sp ≠ some g := by
    intro b2 sp c l hB hne g hg hs
    rcases hG.lies g hg with h1 | h1
    · exact hne g hs h1
    · have := (hB.isT g hs).2.1; omega
  refine ⟨fcell hbox 0 _ (by simp [Fil.row]), ffree hbox 0, ?_, ?_⟩
  · refine FileAt.ofSet f hbox h.low 0 _ (f.over bp bc b) (by simp [Fil.row, Fil.over]) hX (h.sure.grownNe hG.grown (fun g hg e => h.apart g e hg)) (h.chs.grownNe hG.grown (fun g hg e => h.bytes.ne_row h.chs g e hg) (fun x hx g hg => (h.far x hx g hg).1)) ?_ (fun x hx g hg => ⟨fun e => ?_, (h.far x hx g hg).2⟩)
    · exact n1 h.sure (fun g hg e => h.apart g e hg)
    · exact n1 (h.chs.dat x hx) (fun g hg => (h.far x hx g hg).1) g e hg
  · refine ⟨hG.grown.os, hG.grown.tape, hG.grown.output, ?_, fun i hi hn => ?_, fun g hg => ?_, fun g hg => .inl hg⟩
    · have := hG.grown.size
      simpa [World.setCell] using this
    · rw [heap_setCell_other _ ⟨F, 0, none⟩ i _ (fun e => hn (.inl e))]
      exact hG.grown.block i hi (fun e => hn (.inr (.inl e.symm)))
    · rcases hg with rfl | hg | hg | hg
      · exact .inl (.inl rfl)
      · rcases hG.lies g hg with h1 | h1
        · exact .inl (.inr (.inl h1))
        · exact .inr h1
      · exact .inl (.inr (.inr (.inl hg)))
      · exact .inl (.inr (.inr (.inr hg)))
theorem BytesAt.past {w w' : World} {a : Option Addr} {l : List Nat} {o : Option Nat} (h : BytesAt w a l) (hg : w.grownBy w' o) (hne : ∀ b off, a = some ⟨b, off, none⟩ → o ≠ some b) : BytesAt w' a l := by
  refine ⟨h.lt, fun i hi => ?_⟩
  obtain ⟨b, off, e1, e2⟩ := h.cell i hi
  refine ⟨b, off, e1, ?_⟩
  rw [World.cell?_of_block (w := w) (w' := w') (hg.block b (World.block_lt_of_cell? _ _ e2) (fun e => hne b off e1 e.symm))]
  exact e2
set_option maxRecDepth 20000 in
set_option maxHeartbeats 40000000 in
theorem write_none (base : Nat) (w : World) (F : Nat) (f : Fil) (h : FileAt base w F f) (k : Nat) (hk : k ≤ f.b.length) (xp : Option Addr) (xc : Nat) (hx0 : xp = none → xc = 0) (hsz : f.b.length ≤ 140737488355328) (hbs : base ≤ w.heap.size) :
    Calls Tryz.prog 82 #[.pointer (some ⟨F, 0, none⟩), .int .i64 (k : Int), .slice xp 0 xc] w fun e w' => e = .returned (.tuple #[]) ∧ ∃ bp bc, FileAt base w' F (f.over bp bc (overL f.b k [])) ∧ FGrew F w f w' (f.over bp bc (overL f.b k [])) := by
  have c0 := h.c0
  have HL := hide (laid_calls base f.bp f.bc f.b f.b.length k xp 0 xc [] w rfl hk rfl ⟨by simp, by simp⟩ hx0 (Nat.zero_le _) h.bytes (fun h0 => absurd h0 (by simp)) hsz hbs)
  have HO := hide (fun (V : World) (bp : Option Addr) (bc : Nat) (b : List Nat) (hX : Bx base V bp bc b) (hG : Grew w f.bp V bp) => h.over bp bc b hX hG)
  clear h hk hx0 hsz hbs
  generalize f.b.length = n at *
  go_enter Tryz.func82, Tryz.ntmps82
  go_wp2_with (go_at_call 118; refine (unhide HL).mono ?_; rintro e1 V ⟨bp, bc, rfl, hX, hG⟩; obtain ⟨v0, z0, k3, k4⟩ := unhide HO V bp bc _ hX hG; have K3 := hide k3; have K4 := hide k4; clear hX hG k3 k4)
  go_end0
  exact ⟨rfl, bp, bc, unhide K3, unhide K4⟩
set_option maxRecDepth 20000 in
set_option maxHeartbeats 40000000 in
theorem write_some (base : Nat) (w : World) (F : Nat) (f : Fil) (h : FileAt base w F f) (k : Nat) (hk : k ≤ f.b.length) (xp : Option Addr) (xn xc : Nat) (o : List Nat) (ho : o.length = xn) (h0 : 0 < xn) (hxc : xn ≤ xc) (hB : BytesAt w xp o) (hx0 : xp = none → xc = 0) (hne : ∀ b off, xp = some ⟨b, off, none⟩ → ¬ f.mut F b) (hsz : f.b.length + xn ≤ 140737488355328) (hxs : (f.xs.length + 1) * 40 ≤ 140737488355328) (hbs : base ≤ w.heap.size) :
    Calls Tryz.prog 82 #[.pointer (some ⟨F, 0, none⟩), .int .i64 (k : Int), .slice xp xn xc] w fun e w' => e = .returned (.tuple #[]) ∧ ∃ bp bc cp cc dp, FileAt base w' F ((f.over bp bc (overL f.b k o)).more cp cc ((false, k, o), (dp, xn))) ∧ FGrew F w f w' ((f.over bp bc (overL f.b k o)).more cp cc ((false, k, o), (dp, xn))) := by
  subst ho
  have c0 := h.c0
  have HL := hide (laid_calls base f.bp f.bc f.b f.b.length k xp o.length xc o w rfl hk rfl hB hx0 hxc h.bytes (fun _ b off e hb => hne b off e (.inr (.inl hb))) hsz hbs)
  have HO := hide (fun (V : World) (bp : Option Addr) (bc : Nat) (b : List Nat) (hX : Bx base V bp bc b) (hG : Grew w f.bp V bp) => h.over bp bc b hX hG)
  have HB := hide (fun (V : World) (bp : Option Addr) (v : Value) (hG : Grew w f.bp V bp) =>
    show BytesAt (V.setCell ⟨F, 0, none⟩ v) xp o from (hB.past hG.grown (fun b off e hb => hne b off e (.inr (.inl hb)))).past (grown_set V F 0 v) (fun b off e hb => hne b off e (.inl (Option.some.inj hb).symm)))
  have hxl : o.length ≤ 140737488355328 := by omega
  have HZ := hide hx0
  have HX := hide hxs
  have HBS := hide hbs
  have hgt : (0 : Int) < (o.length : Int) := by omega
  clear h hk hx0 hne hsz hbs hB hxs hxc
  generalize f.b.length = n at *
  go_enter Tryz.func82, Tryz.ntmps82
  go_wp2_with (go_at_call 118; refine (unhide HL).mono ?_; rintro e1 V ⟨bp, bc, rfl, hX, hG⟩; obtain ⟨v0, z0, k3, k4⟩ := unhide HO V bp bc _ hX hG; have B1 := hide (unhide HB V bp (.slice bp (overL f.b k o).length bc) hG); have K3 := hide k3; have K4 := hide k4; clear hX hG k3 k4)
  have S1 := hide (Nat.le_trans (unhide HBS) (unhide K4).size)
  generalize V.setCell ⟨F, 0, none⟩ (.slice bp (overL f.b k o).length bc) = W1 at *
  have HX1 := hide (show ((f.over bp bc (overL f.b k o)).xs.length + 1) * 40 ≤ 140737488355328 from unhide HX)
  obtain ⟨f1, hf1⟩ : ∃ f1, f1 = f.over bp bc (overL f.b k o) := ⟨_, rfl⟩
  rw [← hf1] at K3 K4 HX1
  have E1 := hide hf1
  have d3 := (unhide K3).c3
  clear hf1 v0 z0 c0 HL HO HB HX
  go_region_law (first
    | (have hU' : U = U := rfl; clear hU'; refine step_appendC rfl (.tmp 23) (.tmp 28) rfl base f1.cp f1.xs.length f1.cc f1.xs rfl rfl (by exact unhide Oa) U.heap.size ((false, k, o), (dp, o.length)) rfl (by exact unhide Xa) (by exact unhide Da) (unhide HX1) (by exact unhide Sa) ?_; intro cp4 cc4 W4 hC hG; obtain ⟨q1, q2, q3, q4⟩ := (unhide K3).added (unhide bUA) ((false, k, o), (dp, o.length)) (unhide La) cp4 cc4 hC ⟨⟨hG.grown.os, hG.grown.tape, hG.grown.output, hG.grown.size, hG.grown.block⟩, hG.lies⟩; have Q3 := hide q3; have Q4 := hide q4; clear q3 q4 hC hG)
    | (go_simp; go_at_call 116; refine (fresh_calls xp o.length xc o _ rfl hxl (by exact (unhide B1).drew) (unhide HZ)).mono ?_; rintro e1 U ⟨dp, rfl, hdo, hbU⟩; have bU := hide (show Below W1.heap.size W1 U from ⟨hbU.os, hbU.tape, hbU.output, hbU.size, hbU.block⟩); have bA := hide (show Below U.heap.size U (U.alloc (.cells #[.bool false, .int .i64 (k : Int), .slice dp o.length o.length] 164)) from (Below.refl _ _).alloc (Nat.le_refl _) _); have bUA := hide ((unhide bU).trans ((unhide bA).mono (unhide bU).size)); have v3 := ((unhide K3).later (unhide bU)).c3; have a3 := ((unhide K3).later (unhide bUA)).c3; have Oa := hide ((unhide K3).later (unhide bUA)).chs; have Xa := hide (heap_new U (.cells #[.bool false, .int .i64 (k : Int), .slice dp o.length o.length] 164)); have Da := hide ((hdo.mono (show base ≤ W1.heap.size from unhide S1)).later (unhide bA)); have La := hide (show ∀ g, blk dp = some g → W1.heap.size ≤ g from fun g hg => (hdo.isT g hg).1); have Sa := hide (Nat.le_trans (unhide S1) (unhide bUA).size); clear hdo hbU))
  all_goals
    have hE := unhide E1
    subst hE
    go_end0
    exact ⟨rfl, bp, bc, cp4, cc4, dp, unhide Q3, (unhide K4).trans (unhide Q4)⟩
end Go.Proofs.YtagncghpfdjkmaaGreatDoor
end
/- Disk: a change's units; what it makes of bytes. -/
section
namespace Go.Proofs.YtagncghpfdjkmaaGreatDoor
open Go.ChangeShapes Go.WideShapes Go.ChangeAt Go.RowKit

def unitsC (c : Chg) : Nat := if c.1 then 1 else c.2.2.length
def ontoC (c : Chg) (l : List Nat) (u : Nat) : List Nat := if c.1 then l.take c.2.1 else overL l c.2.1 (c.2.2.take u)
def chAgg (x : ChH) : Value := .agg #[.bool x.1.1, .int .i64 (x.1.2.1 : Int), .slice x.2.1 x.1.2.2.length x.2.2]
theorem units_calls (x : ChH) (w : World) : Calls Tryz.prog 114 #[chAgg x] w fun e w' => e = .returned (.int .i64 (unitsC x.1 : Int)) ∧ Below w.heap.size w w' := by
  obtain ⟨⟨ic, k, o⟩, p, c⟩ := x
  have bA := hide (show Below w.heap.size w (w.alloc (.cells #[.bool ic, .int .i64 (k : Int), .slice p o.length c] 164)) from (Below.refl _ _).alloc (Nat.le_refl _) _)
  have z0 := fcell (heap_new w (.cells #[.bool ic, .int .i64 (k : Int), .slice p o.length c] 164)) 0 (.bool ic) (by simp)
  have z2 := fcell (heap_new w (.cells #[.bool ic, .int .i64 (k : Int), .slice p o.length c] 164)) 2 (.slice p o.length c) (by simp)
  unfold chAgg
  simp only
  cases ic with
  | true =>
    go_enter Tryz.func114, Tryz.ntmps114
    go_wp2
    go_ret
    exact ⟨rfl, unhide bA⟩
  | false =>
    go_enter Tryz.func114, Tryz.ntmps114
    go_wp2
    go_ret
    exact ⟨rfl, unhide bA⟩
theorem Bx.grewNil {base : Nat} {w w' : World} {sp : Option Addr} {c : Nat} {l : List Nat} (h : Bx base w sp c l) (hb : Below w.heap.size w w') : Bx base w' sp c l ∧ Grew w sp w' sp := ⟨h.later hb, ⟨hb.os, hb.tape, hb.output, hb.size, fun i hi _ => hb.block i hi⟩, fun _ hg => .inl hg⟩
set_option maxRecDepth 20000 in
set_option maxHeartbeats 40000000 in
theorem onto_calls {b2 : Nat} (base : Nat) (w : World) (x : ChH) (sp : Option Addr) (sc : Nat) (l : List Nat) (u : Nat) (hX : Bx base w sp sc l) (hD : Bx b2 w x.2.1 x.2.2 x.1.2.2) (hk : x.1.2.1 ≤ l.length) (hu : x.1.1 = false → u ≤ x.1.2.2.length) (hne : ∀ g, blk x.2.1 = some g → blk sp ≠ some g) (hsz : l.length + x.1.2.2.length ≤ 140737488355328) (hbs : base ≤ w.heap.size) :
    Calls Tryz.prog 115 #[chAgg x, .slice sp l.length sc, .int .i64 (u : Int)] w fun e w' => ∃ sp' c', e = .returned (.slice sp' (ontoC x.1 l u).length c') ∧ Bx base w' sp' c' (ontoC x.1 l u) ∧ Grew w sp w' sp' := by
  obtain ⟨⟨ic, k, o⟩, p, c⟩ := x
  simp only at hD hk hu hne hsz
  have ba : Below w.heap.size w (w.alloc (.cells #[.bool ic, .int .i64 (k : Int), .slice p o.length c] 164)) := (Below.refl _ _).alloc (Nat.le_refl _) _
  have z0 := fcell (heap_new w (.cells #[.bool ic, .int .i64 (k : Int), .slice p o.length c] 164)) 0 (.bool ic) (by simp)
  have z1 := fcell (heap_new w (.cells #[.bool ic, .int .i64 (k : Int), .slice p o.length c] 164)) 1 (.int .i64 (k : Int)) (by simp)
  have z2 := fcell (heap_new w (.cells #[.bool ic, .int .i64 (k : Int), .slice p o.length c] 164)) 2 (.slice p o.length c) (by simp)
  unfold chAgg
  simp only
  cases ic with
  | true =>
    have hs := run_slice_h8 sp l.length sc k (Nat.le_trans hk hX.cap.1)
    rw [hX.slp0] at hs
    have X1 := hide ((hX.cut k sc hk (Nat.le_trans hk hX.cap.1) (Nat.le_refl _)).grewNil ba)
    have E1 := hide (show (ontoC (true, k, o) l u).length = k from by simp [ontoC]; omega)
    clear hX hD hk hu hne hsz hbs ba
    generalize l.length = m at *
    go_enter Tryz.func115, Tryz.ntmps115
    go_wp2
    go_ret
    exact ⟨sp, sc, by rw [unhide E1]; rfl, (unhide X1).1, (unhide X1).2⟩
  | false =>
    have hu' := hu rfl
    have hs := run_slice_h8 p o.length c u (Nat.le_trans hu' hD.cap.1)
    rw [hD.slp0] at hs
    have hX1 := (hX.grewNil ba).1
    have hD1 := (hD.grewNil ba).1
    have HT := hide (show (o.take u).length = u by rw [List.length_take]; omega)
    have B1 := hide (hD1.bytes.take u)
    have Z1 := hide hD1.nil0
    have C1 := hide (Nat.le_trans hu' hD1.cap.1)
    have X1 := hide hX1
    have N1 := hide (show ∀ b off, p = some ⟨b, off, none⟩ → blk sp ≠ some b from fun b off e hb => hne b (by rw [e]; rfl) hb)
    have S1 := hide (show l.length + u ≤ 140737488355328 by omega)
    have S2 := hide (Nat.le_trans hbs ba.size)
    have HK := hide hk
    have G1 := hide (hX.grewNil ba).2
    clear hX hD hk hu hne hsz hbs ba hX1 hD1 hu'
    go_enter Tryz.func115, Tryz.ntmps115
    go_wp2
    go_region_law (go_simp; go_at_call 118; refine (laid_calls base sp sc l l.length k p u c (o.take u) _ rfl (unhide HK) (unhide HT) (by first | exact unhide B1 | exact (unhide B1).drew) (unhide Z1) (unhide C1) (by first | exact unhide X1 | exact ⟨(unhide X1).lt, (unhide X1).row⟩) (fun _ => unhide N1) (unhide S1) (by exact unhide S2)).mono ?_; rintro e1 U ⟨sp', c', rfl, hX, hG⟩; have X2 := hide hX; have G2 := hide ((unhide G1).trans (⟨⟨hG.grown.os, hG.grown.tape, hG.grown.output, hG.grown.size, hG.grown.block⟩, hG.lies⟩ : Grew (w.alloc (.cells #[.bool false, .int .i64 (k : Int), .slice p o.length c] 164)) sp U sp')); clear hX hG)
    all_goals
      go_wp2
      go_ret
      exact ⟨sp', c', rfl, unhide X2, unhide G2⟩
end Go.Proofs.YtagncghpfdjkmaaGreatDoor
end
/- Disk: what a crash leaves of a file. -/
section
namespace Go.Proofs.YtagncghpfdjkmaaGreatDoor
open Go.ChangeShapes Go.WideShapes Go.ChangeAt Go.RowKit

/-- What the first units of changes make of bytes, and how many units are left. -/
def crashL : List Chg → List Nat → Nat → List Nat × Nat
  | [], y, n => (y, n)
  | c :: cs, y, n => if n = 0 then (y, 0) else crashL cs (ontoC c y (min n (unitsC c))) (n - min n (unitsC c))
/-- Each change stands where the ones before it left bytes. -/
def fitsC : List Chg → List Nat → Prop
  | [], _ => True
  | c :: cs, y => c.2.1 ≤ y.length ∧ y.length + c.2.2.length ≤ 140737488355328 ∧ fitsC cs (ontoC c y (unitsC c))
theorem crashL_zero (cs : List Chg) (y : List Nat) : crashL cs y 0 = (y, 0) := by cases cs <;> simp [crashL]
theorem OwnC.cell {base : Nat} {w : World} {sp : Option Addr} {c : Nat} {xs : List ChH} (h : OwnC base w sp c xs) (i : Nat) (hi : i < xs.length) : ∃ g, sp = some ⟨g, 0, none⟩ ∧ w.cell? ⟨g, i * 3, none⟩ = some (.bool xs[i].1.1) ∧ w.cell? ⟨g, i * 3 + 1, none⟩ = some (.int .i64 (xs[i].1.2.1 : Int)) ∧ w.cell? ⟨g, i * 3 + 2, none⟩ = some (.slice xs[i].2.1 xs[i].1.2.2.length xs[i].2.2) := by
  rcases h.row.2 with ⟨_, h0⟩ | ⟨g, cap, cur, hv, _, hg, _, _, _, ht⟩
  · omega
  · simp only [Value.slice.injEq] at hv
    obtain ⟨rfl, _, _⟩ := hv
    have key : ∀ f, f < 3 → w.cell? ⟨g, i * 3 + f, none⟩ = (chRow xs[i])[f]? := by
      intro f hf
      rw [cell_of_row w g _ cur _ _ hg]
      have hlt : i * 3 + f < xs.length * 3 := by omega
      have e : (cur.toList.take (xs.length * 3))[i * 3 + f]? = cur.toList[i * 3 + f]? := by rw [List.getElem?_take, if_pos hlt]
      rw [ht, rowsC_get xs i f hi hf] at e
      rw [e]
      simp
    exact ⟨g, rfl, by simpa [chRow] using key 0 (by omega), by simpa [chRow] using key 1 (by omega), by simpa [chRow] using key 2 (by omega)⟩
def Fil.overY (f : Fil) (yp : Option Addr) (yc : Nat) (y : List Nat) : Fil := { f with yp := yp, yc := yc, y := y }
theorem FileAt.overY {base : Nat} {w V : World} {F : Nat} {f : Fil} (h : FileAt base w F f) (yp : Option Addr) (yc : Nat) (y : List Nat) (hX : Bx base V yp yc y) (hG : Grew w f.yp V yp) :
    V.cell? ⟨F, 1, none⟩ = some (.slice f.yp f.y.length f.yc) ∧ V.frozen? ⟨F, 1, none⟩ = false ∧
    FileAt base (V.setCell ⟨F, 1, none⟩ (.slice yp y.length yc)) F (f.overY yp yc y) ∧ FGrew F w f (V.setCell ⟨F, 1, none⟩ (.slice yp y.length yc)) (f.overY yp yc y) := by
  have hbox : V.heap[F]? = some (.cells f.row 126 (0, 0)) := (hG.grown.block F h.ltF (fun e => h.sure.ne_block h.box (by decide) e.symm)).trans h.box
  have n1 : ∀ {b2 : Nat} {sp : Option Addr} {c : Nat} {l : List Nat}, Bx b2 w sp c l → (∀ g, blk sp = some g → blk f.yp ≠ some g) → ∀ g, blk yp = some g → blk sp ≠ some g := by
    intro b2 sp c l hB hne g hg hs
    rcases hG.lies g hg with h1 | h1
    · exact hne g hs h1
    · have := (hB.isT g hs).2.1; omega
  refine ⟨fcell hbox 1 _ (by simp [Fil.row]), ffree hbox 1, ?_, ?_⟩
  · refine FileAt.ofSet f hbox h.low 1 _ (f.overY yp yc y) (by simp [Fil.row, Fil.overY]) (h.bytes.grownNe hG.grown h.apart) hX (h.chs.grownNe hG.grown (fun g hg e => h.sure.ne_row h.chs g e hg) (fun x hx g hg => (h.far x hx g hg).2)) ?_ (fun x hx g hg => ⟨(h.far x hx g hg).1, fun e => ?_⟩)
    · exact fun g hg e => n1 h.bytes h.apart g e hg
    · exact n1 (h.chs.dat x hx) (fun g hg => (h.far x hx g hg).2) g e hg
  · refine ⟨hG.grown.os, hG.grown.tape, hG.grown.output, ?_, fun i hi hn => ?_, fun g hg => ?_, fun g hg => .inl hg⟩
    · have := hG.grown.size
      simpa [World.setCell] using this
    · rw [heap_setCell_other _ ⟨F, 1, none⟩ i _ (fun e => hn (.inl e))]
      exact hG.grown.block i hi (fun e => hn (.inr (.inr (.inl e.symm))))
    · rcases hg with rfl | hg | hg | hg
      · exact .inl (.inl rfl)
      · exact .inl (.inr (.inl hg))
      · rcases hG.lies g hg with h1 | h1
        · exact .inl (.inr (.inr (.inl h1)))
        · exact .inr h1
      · exact .inl (.inr (.inr (.inr hg)))
def Fil.crashed (f : Fil) (bp : Option Addr) : Fil := { f with bp := bp, bc := f.y.length, b := f.y, la := true, cp := none, cc := 0, xs := [] }
/-- The three stores that end a crash. -/
theorem FileAt.crash3 {base : Nat} {w V : World} {F : Nat} {f : Fil} (h : FileAt base w F f) (hbs : base ≤ w.heap.size) (hb : Below w.heap.size w V) (dp : Option Addr) (hd : Bx w.heap.size V dp f.y.length f.y) :
    FileAt base (V.setCell ⟨F, 0, none⟩ (.slice dp f.y.length f.y.length)) F { f with bp := dp, bc := f.y.length, b := f.y } ∧
    FileAt base ((V.setCell ⟨F, 0, none⟩ (.slice dp f.y.length f.y.length)).setCell ⟨F, 2, none⟩ (.bool true)) F { f with bp := dp, bc := f.y.length, b := f.y, la := true } ∧
    FileAt base (((V.setCell ⟨F, 0, none⟩ (.slice dp f.y.length f.y.length)).setCell ⟨F, 2, none⟩ (.bool true)).setCell ⟨F, 3, none⟩ (.slice none 0 0)) F (f.crashed dp) ∧
    FGrew F w f (((V.setCell ⟨F, 0, none⟩ (.slice dp f.y.length f.y.length)).setCell ⟨F, 2, none⟩ (.bool true)).setCell ⟨F, 3, none⟩ (.slice none 0 0)) (f.crashed dp) := by
  have hV := h.later hb
  have H1 : FileAt base (V.setCell ⟨F, 0, none⟩ (.slice dp f.y.length f.y.length)) F { f with bp := dp, bc := f.y.length, b := f.y } :=
    hV.set 0 _ _ (by simp [Fil.row]) (hd.mono hbs) hV.sure hV.chs (fun g hg e => h.sure.old_ne hd g e hg) (fun x hx g hg => ⟨(h.chs.dat x hx).old_ne hd g hg, (h.far x hx g hg).2⟩)
  have H2 := H1.set 2 (.bool true) { f with bp := dp, bc := f.y.length, b := f.y, la := true } (by simp [Fil.row]) H1.bytes H1.sure H1.chs H1.apart H1.far
  have H3 := H2.set 3 (.slice none 0 0) (f.crashed dp) (by simp [Fil.row, Fil.crashed]) H2.bytes H2.sure (OwnC.ofNil _ _) H2.apart (by simp [Fil.crashed])
  refine ⟨H1, H2, H3, ⟨hb.os, hb.tape, hb.output, ?_, fun i hi hn => ?_, fun g hg => ?_, fun g hg => ?_⟩⟩
  · simpa [World.setCell] using hb.size
  · have hne : i ≠ F := fun e => hn (.inl e)
    rw [heap_setCell_other _ ⟨F, 3, none⟩ i _ hne, heap_setCell_other _ ⟨F, 2, none⟩ i _ hne, heap_setCell_other _ ⟨F, 0, none⟩ i _ hne]
    exact hb.block i hi
  · rcases hg with rfl | hg | hg | hg
    · exact .inl (.inl rfl)
    · exact .inr (hd.isT g hg).1
    · exact .inl (.inr (.inr (.inl hg)))
    · cases hg
  · obtain ⟨x, hx, _⟩ := hg
    simp [Fil.crashed] at hx
end Go.Proofs.YtagncghpfdjkmaaGreatDoor
end
