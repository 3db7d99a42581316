/- Disk: sync, cut, write. -/
import Derived.Test.YtijcpmbfhfppmaaGreatDoorDk3
namespace Go.Proofs.YtijcpmbfhfppmaaGreatDoor
open Go.ChangeShapes Go.WideShapes Go.ChangeAt Go.RowKit

theorem nocells {a : Option Addr} : (∃ ad, a = some ad) ∨ a = none := by cases a <;> simp
def Fil.synced (f : Fil) (yp : Option Addr) : Fil := { f with yp := yp, yc := f.b.length, y := f.b, la := true, cp := none, cc := 0, xs := [] }
theorem Bx.old_ne {base : Nat} {w V : World} {sp dp : Option Addr} {c dc : Nat} {l d : List Nat} (h : Bx base w sp c l) (k : Bx w.heap.size V dp dc d) : ∀ g, blk sp = some g → blk dp ≠ some g := by
  intro g hg hd
  have := (h.isT g hg).2.1
  have := (k.isT g hd).1
  omega
/-- The three stores of sync. -/
theorem FileAt.sync3 {base : Nat} {w V : World} {F : Nat} {f : Fil} (h : FileAt base w F f) (hbs : base ≤ w.heap.size) (hb : Below w.heap.size w V) (dp : Option Addr) (hd : Bx w.heap.size V dp f.b.length f.b) :
    FileAt base (V.setCell ⟨F, 1, none⟩ (.slice dp f.b.length f.b.length)) F { f with yp := dp, yc := f.b.length, y := f.b } ∧
    FileAt base ((V.setCell ⟨F, 1, none⟩ (.slice dp f.b.length f.b.length)).setCell ⟨F, 2, none⟩ (.bool true)) F { f with yp := dp, yc := f.b.length, y := f.b, la := true } ∧
    FileAt base (((V.setCell ⟨F, 1, none⟩ (.slice dp f.b.length f.b.length)).setCell ⟨F, 2, none⟩ (.bool true)).setCell ⟨F, 3, none⟩ (.slice none 0 0)) F (f.synced dp) ∧
    FGrew F w f (((V.setCell ⟨F, 1, none⟩ (.slice dp f.b.length f.b.length)).setCell ⟨F, 2, none⟩ (.bool true)).setCell ⟨F, 3, none⟩ (.slice none 0 0)) (f.synced dp) := by
  have hV := h.later hb
  have n1 : ∀ g, blk f.bp = some g → blk dp ≠ some g := h.bytes.old_ne hd
  have H1 : FileAt base (V.setCell ⟨F, 1, none⟩ (.slice dp f.b.length f.b.length)) F { f with yp := dp, yc := f.b.length, y := f.b } :=
    hV.set 1 _ _ (by simp [Fil.row]) hV.bytes (hd.mono hbs) hV.chs n1 (fun x hx g hg => ⟨(h.far x hx g hg).1, (h.chs.dat x hx).old_ne hd g hg⟩)
  have H2 := H1.set 2 (.bool true) { f with yp := dp, yc := f.b.length, y := f.b, la := true } (by simp [Fil.row]) H1.bytes H1.sure H1.chs H1.apart H1.far
  have H3 := H2.set 3 (.slice none 0 0) (f.synced dp) (by simp [Fil.row, Fil.synced]) H2.bytes H2.sure (OwnC.ofNil _ _) H2.apart (by simp [Fil.synced])
  refine ⟨H1, H2, H3, ⟨hb.os, hb.tape, hb.output, ?_, fun i hi hn => ?_, fun g hg => ?_, fun g hg => ?_⟩⟩
  · simpa [World.setCell] using hb.size
  · have hne : i ≠ F := fun e => hn (.inl e)
    rw [heap_setCell_other _ ⟨F, 3, none⟩ i _ hne, heap_setCell_other _ ⟨F, 2, none⟩ i _ hne, heap_setCell_other _ ⟨F, 1, none⟩ i _ hne]
    exact hb.block i hi
  · rcases hg with rfl | hg | hg | hg
    · exact .inl (.inl rfl)
    · exact .inl (.inr (.inl hg))
    · exact .inr (hd.isT g hg).1
    · cases hg
  · obtain ⟨x, hx, _⟩ := hg
    simp [Fil.synced] at hx
set_option maxRecDepth 20000 in
set_option maxHeartbeats 40000000 in
theorem sync_calls (base : Nat) (w : World) (F : Nat) (f : Fil) (h : FileAt base w F f) (hl : f.b.length ≤ 140737488355328) (hbs : base ≤ w.heap.size) :
    Calls Tryz.prog 81 #[.pointer (some ⟨F, 0, none⟩)] w fun e w' => e = .returned (.tuple #[]) ∧ ∃ yp, FileAt base w' F (f.synced yp) ∧ FGrew F w f w' (f.synced yp) := by
  have c0 := h.c0
  have HF := hide h
  have BB := hide h.bytes.bytes
  have ZZ := hide h.bytes.nil0
  have HS := hide (fun (V : World) (hb : Below w.heap.size w V) => h.sync3 (V := V) hbs hb)
  generalize hn : f.b.length = n at *
  have HN := hide hn
  clear h hbs hn
  go_enter Tryz.func81, Tryz.ntmps81
  go_wp2_with (go_at_call 77; refine (fresh_calls f.bp n f.bc f.b _ (unhide HN) hl (unhide BB) (unhide ZZ)).mono ?_; rintro e1 V ⟨dp, rfl, hdo, hbV⟩; obtain ⟨k1, k2, k3, k4⟩ := unhide HS V hbV dp hdo; have v1 := ((unhide HF).later hbV).c1; have x1 := ((unhide HF).later hbV).fz 1; have v2 := k1.c2; have x2 := k1.fz 2; have v3 := k2.c3; have x3 := k2.fz 3; have K3 := hide k3; have K4 := hide k4; clear k1 k2 k3 k4 hdo hbV)
  go_end0
  exact ⟨rfl, dp, unhide K3, unhide K4⟩
theorem step_appendC {w : World} {ops : Array Oper} {o : Oper} {a : Act} {K : Act → World → Prop} {Q : Exit → Act → World → Prop} {E : Prop} (hgd : o.guard = none) (s x : Operand)
    (ho : o.op = .call { callee := .builtin .append, args := #[s, x], argTypes := #[116, 116] })
    (base : Nat) (sp : Option Addr) (n c : Nat) (xs : List ChH) (hs : a.eval s = .slice sp n c) (hn : xs.length = n) (hown : OwnC base w sp c xs) (B : Nat) (e : ChH) (hx : a.eval x = .slice (some ⟨B, 0, none⟩) 1 1)
    (hB : w.heap[B]? = some (.cells (chRow e).toArray 152 (0, 0))) (hd : Bx base w e.2.1 e.2.2 e.1.2.2) (hlen : (n + 1) * 40 ≤ 140737488355328) (hbase : base ≤ w.heap.size)
    (hk : ∀ sp' c' w', OwnC base w' sp' c' (xs ++ [e]) → Grew w sp w' sp' → K (a.put o.dst (.slice sp' (n + 1) c')) w') :
    if Region.wanted o (yielded ops a.tmps) = true then Oper.wp Tryz.prog o a w K Q else E := by
  subst hn
  have hw : Region.wanted o (yielded ops a.tmps) = true := by simp [Region.wanted, hgd]
  rw [if_pos hw]
  obtain ⟨sp', c', w', hrun, h1, h2⟩ := run_appendC hown B e hB hd hlen hbase o.type
  unfold Oper.wp
  simp [execOp, ho, resolve, invoke, builtin, hs, hx, hrun, Result.andThen]
  exact hk sp' c' w' h1 h2
theorem wpList_appendC {w : World} {ops : Array Oper} {rest : List Oper} {o : Oper} {a : Act} {Q : Exit → Act → World → Prop} (hgd : o.guard = none) (s x : Operand)
    (ho : o.op = .call { callee := .builtin .append, args := #[s, x], argTypes := #[116, 116] })
    (base : Nat) (sp : Option Addr) (n c : Nat) (xs : List ChH) (hs : a.eval s = .slice sp n c) (hn : xs.length = n) (hown : OwnC base w sp c xs) (B : Nat) (e : ChH) (hx : a.eval x = .slice (some ⟨B, 0, none⟩) 1 1)
    (hB : w.heap[B]? = some (.cells (chRow e).toArray 152 (0, 0))) (hd : Bx base w e.2.1 e.2.2 e.1.2.2) (hlen : (n + 1) * 40 ≤ 140737488355328) (hbase : base ≤ w.heap.size)
    (hk : ∀ sp' c' w', OwnC base w' sp' c' (xs ++ [e]) → Grew w sp w' sp' → wpList Tryz.prog ops Q rest (a.put o.dst (.slice sp' (n + 1) c')) w') :
    wpList Tryz.prog ops Q (o :: rest) a w := by
  subst hn
  refine wpList_plain hgd fun K hK => ?_
  obtain ⟨sp', c', w', hrun, h1, h2⟩ := run_appendC hown B e hB hd hlen hbase o.type
  unfold Oper.wp
  simp [execOp, ho, resolve, invoke, builtin, hs, hx, hrun, Result.andThen]
  exact hK _ _ (hk sp' c' w' h1 h2)
/-- A file whose own block is as told, one cell of it stored. -/
theorem FileAt.ofSet {base : Nat} {w : World} {F : Nat} (f : Fil) (hbox : w.heap[F]? = some (.cells f.row 118 (0, 0))) (hlow : base ≤ F) (k : Nat) (v : Value) (f' : Fil) (hr : f.row.setIfInBounds k v = f'.row) (hB : Bx base w f'.bp f'.bc f'.b) (hY : Bx base w f'.yp f'.yc f'.y) (hC : OwnC base w f'.cp f'.cc f'.xs)
    (ha : ∀ g, blk f'.bp = some g → blk f'.yp ≠ some g) (hf : ∀ x ∈ f'.xs, ∀ g, blk x.2.1 = some g → blk f'.bp ≠ some g ∧ blk f'.yp ≠ some g) : FileAt base (w.setCell ⟨F, k, none⟩ v) F f' := by
  have hg := grown_set w F k v
  refine ⟨?_, hB.grownNe hg (fun g hs e => hB.ne_block hbox (by decide) (by rw [hs, Option.some.inj e])), hY.grownNe hg (fun g hs e => hY.ne_block hbox (by decide) (by rw [hs, Option.some.inj e])), hC.far hg hbox (by decide) (by decide), hlow, ha, hf⟩
  rw [← hr]
  exact heap_setCell_same w F k _ 118 v hbox
def Fil.more (f : Fil) (cp : Option Addr) (cc : Nat) (x : ChH) : Fil := { f with cp := cp, cc := cc, xs := f.xs ++ [x] }
/-- One more change. -/
theorem FileAt.added {base : Nat} {W V W2 : World} {F : Nat} {f : Fil} (h : FileAt base W F f) (hb : Below W.heap.size W V) (x : ChH) (hx : ∀ g, blk x.2.1 = some g → W.heap.size ≤ g) (cp' : Option Addr) (cc' : Nat) (hC : OwnC base W2 cp' cc' (f.xs ++ [x])) (hG : Grew V f.cp W2 cp') :
    W2.cell? ⟨F, 3, none⟩ = some (.slice f.cp f.xs.length f.cc) ∧ W2.frozen? ⟨F, 3, none⟩ = false ∧
    FileAt base (W2.setCell ⟨F, 3, none⟩ (.slice cp' (f.xs.length + 1) cc')) F (f.more cp' cc' x) ∧ FGrew F W f (W2.setCell ⟨F, 3, none⟩ (.slice cp' (f.xs.length + 1) cc')) (f.more cp' cc' x) := by
  have hV := h.later hb
  have hbox : W2.heap[F]? = some (.cells f.row 118 (0, 0)) := (hG.grown.block F hV.ltF (fun e => hV.chs.ne_block hV.box (by decide) e.symm)).trans hV.box
  refine ⟨fcell hbox 3 _ (by simp [Fil.row]), ffree hbox 3, ?_, ?_⟩
  · refine FileAt.ofSet f hbox h.low 3 _ (f.more cp' cc' x) (by simp [Fil.row, Fil.more]) (hV.bytes.grownNe hG.grown (hV.bytes.ne_row hV.chs)) (hV.sure.grownNe hG.grown (hV.sure.ne_row hV.chs)) hC h.apart (fun z hz g hg => ?_)
    rcases List.mem_append.1 hz with hz | hz
    · exact h.far z hz g hg
    · rw [List.mem_singleton] at hz
      subst hz
      have h1 := hx g hg
      exact ⟨fun e => by have := (h.bytes.isT g e).2.1; omega, fun e => by have := (h.sure.isT g e).2.1; omega⟩
  · refine ⟨hG.grown.os.trans hb.os, hG.grown.tape.trans hb.tape, hG.grown.output.trans hb.output, ?_, fun i hi hn => ?_, fun g hg => ?_, fun g hg => ?_⟩
    · have := Nat.le_trans hb.size hG.grown.size
      simpa [World.setCell] using this
    · rw [heap_setCell_other _ ⟨F, 3, none⟩ i _ (fun e => hn (.inl e))]
      exact (hG.grown.block i (Nat.lt_of_lt_of_le hi hb.size) (fun e => hn (.inr (.inr (.inr e.symm))))).trans (hb.block i hi)
    · rcases hg with rfl | hg | hg | hg
      · exact .inl (.inl rfl)
      · exact .inl (.inr (.inl hg))
      · exact .inl (.inr (.inr (.inl hg)))
      · rcases hG.lies g hg with h1 | h1
        · exact .inl (.inr (.inr (.inr h1)))
        · exact .inr (Nat.le_trans hb.size h1)
    · obtain ⟨z, hz, hg⟩ := hg
      rcases List.mem_append.1 hz with hz | hz
      · exact .inl ⟨z, hz, hg⟩
      · rw [List.mem_singleton] at hz
        subst hz
        exact .inr (hx g hg)
def Fil.shorter (f : Fil) (k : Nat) : Fil := { f with b := f.b.take k }
theorem FileAt.shorter {base : Nat} {w : World} {F : Nat} {f : Fil} (h : FileAt base w F f) (k : Nat) (hk : k ≤ f.b.length) :
    FileAt base (w.setCell ⟨F, 0, none⟩ (.slice f.bp k f.bc)) F (f.shorter k) ∧ FGrew F w f (w.setCell ⟨F, 0, none⟩ (.slice f.bp k f.bc)) (f.shorter k) := by
  have hl : (f.b.take k).length = k := by rw [List.length_take]; omega
  refine ⟨h.set 0 _ (f.shorter k) (by simp [Fil.row, Fil.shorter]; omega) (h.bytes.cut k f.bc hk (Nat.le_trans hk h.bytes.cap.1) (Nat.le_refl _)) h.sure h.chs h.apart h.far, ⟨rfl, rfl, rfl, ?_, fun i hi hn => ?_, fun _ hg => .inl hg, fun _ hg => .inl hg⟩⟩
  · simp [World.setCell]
  · exact heap_setCell_other _ ⟨F, 0, none⟩ i _ (fun e => hn (.inl e))
set_option maxRecDepth 20000 in
set_option maxHeartbeats 40000000 in
theorem cut_calls (base : Nat) (w : World) (F : Nat) (f : Fil) (h : FileAt base w F f) (k : Nat) (hk : k ≤ f.b.length) (hx : (f.xs.length + 1) * 40 ≤ 140737488355328) (hbs : base ≤ w.heap.size) :
    Calls Tryz.prog 135 #[.pointer (some ⟨F, 0, none⟩), .int .i64 (k : Int)] w fun e w' => e = .returned (.tuple #[]) ∧ ∃ cp cc, FileAt base w' F ((f.shorter k).more cp cc ((true, k, []), (none, 0))) ∧ FGrew F w f w' ((f.shorter k).more cp cc ((true, k, []), (none, 0))) := by
  have c0 := h.c0
  have z0 := h.fz 0
  have hs := run_slice_h8 f.bp f.b.length f.bc k (Nat.le_trans hk h.bytes.cap.1)
  rw [h.bytes.slp0] at hs
  obtain ⟨h1, g1⟩ := h.shorter k hk
  have d3 := h1.c3
  have H1 := hide h1
  have G1 := hide g1
  have S1 := hide (show base ≤ (w.setCell ⟨F, 0, none⟩ (.slice f.bp k f.bc)).heap.size from Nat.le_trans hbs g1.size)
  have HX := hide hx
  clear h h1 g1 hk hx hbs
  generalize f.b.length = n at *
  go_enter Tryz.func135, Tryz.ntmps135
  go_wp2_with (at_builtin; refine unhide ?_)
  refine hide ?_
  have eS : (w.setCell ⟨F, 0, none⟩ (.slice f.bp k f.bc)).heap.size = w.heap.size := by simp [World.setCell]
  rw [← eS]
  generalize w.setCell ⟨F, 0, none⟩ (.slice f.bp k f.bc) = W1 at *
  have bA : Below W1.heap.size W1 (W1.alloc (.cells #[.bool true, .int .i64 (k : Int), .slice none 0 0] 152)) := (Below.refl _ _).alloc (Nat.le_refl _) _
  refine wpList_appendC rfl (.tmp 17) (.tmp 20) rfl base (f.shorter k).cp (f.shorter k).xs.length (f.shorter k).cc (f.shorter k).xs rfl rfl ((unhide H1).chs.later bA) W1.heap.size ((true, k, []), (none, 0)) rfl (heap_new W1 _) (Bx.ofNil _ _) (unhide HX) (Nat.le_trans (unhide S1) bA.size) ?_
  intro cp' cc' W2 hC hG
  obtain ⟨q1, q2, q3, q4⟩ := (unhide H1).added bA _ (fun g hg => by cases hg) cp' cc' hC hG
  have Q3 := hide q3
  have Q4 := hide q4
  clear q3 q4 hC hG bA eS
  go_wp2
  go_end0
  exact ⟨rfl, cp', cc', unhide Q3, (unhide G1).trans (unhide Q4)⟩
end Go.Proofs.YtijcpmbfhfppmaaGreatDoor
