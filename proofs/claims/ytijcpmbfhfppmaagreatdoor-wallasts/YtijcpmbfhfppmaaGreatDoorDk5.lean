/- Disk: write. -/
import Derived.Test.YtijcpmbfhfppmaaGreatDoorDk4
namespace Go.Proofs.YtijcpmbfhfppmaaGreatDoor
open Go.ChangeShapes Go.WideShapes Go.ChangeAt Go.RowKit

def Fil.over (f : Fil) (bp : Option Addr) (bc : Nat) (b : List Nat) : Fil := { f with bp := bp, bc := bc, b := b }
theorem FileAt.over {base : Nat} {w V : World} {F : Nat} {f : Fil} (h : FileAt base w F f) (bp : Option Addr) (bc : Nat) (b : List Nat) (hX : Bx base V bp bc b) (hG : Grew w f.bp V bp) :
    V.cell? ⟨F, 0, none⟩ = some (.slice f.bp f.b.length f.bc) ∧ V.frozen? ⟨F, 0, none⟩ = false ∧
    FileAt base (V.setCell ⟨F, 0, none⟩ (.slice bp b.length bc)) F (f.over bp bc b) ∧ FGrew F w f (V.setCell ⟨F, 0, none⟩ (.slice bp b.length bc)) (f.over bp bc b) := by
  have hbox : V.heap[F]? = some (.cells f.row 118 (0, 0)) := (hG.grown.block F h.ltF (fun e => h.bytes.ne_block h.box (by decide) e.symm)).trans h.box
  have n1 : ∀ {b2 : Nat} {sp : Option Addr} {c : Nat} {l : List Nat}, Bx b2 w sp c l → (∀ g, blk sp = some g → blk f.bp ≠ some g) → ∀ g, blk bp = some g → blk sp ≠ some g := by
    intro b2 sp c l hB hne g hg hs
    rcases hG.lies g hg with h1 | h1
    · exact hne g hs h1
    · have := (hB.isT g hs).2.1; omega
  refine ⟨fcell hbox 0 _ (by simp [Fil.row]), ffree hbox 0, ?_, ?_⟩
  · refine FileAt.ofSet f hbox h.low 0 _ (f.over bp bc b) (by simp [Fil.row, Fil.over]) hX (h.sure.grownNe hG.grown (fun g hg e => h.apart g e hg)) (h.chs.grownNe hG.grown (fun g hg e => h.bytes.ne_row h.chs g e hg) (fun x hx g hg => (h.far x hx g hg).1)) ?_ (fun x hx g hg => ⟨fun e => ?_, (h.far x hx g hg).2⟩)
    · exact n1 h.sure (fun g hg e => h.apart g e hg)
    · exact n1 (h.chs.dat x hx) (fun g hg => (h.far x hx g hg).1) g e hg
  · refine ⟨hG.grown.os, hG.grown.tape, hG.grown.output, ?_, fun i hi hn => ?_, fun g hg => ?_, fun g hg => .inl hg⟩
    · have := hG.grown.size
      simpa [World.setCell] using this
    · rw [heap_setCell_other _ ⟨F, 0, none⟩ i _ (fun e => hn (.inl e))]
      exact hG.grown.block i hi (fun e => hn (.inr (.inl e.symm)))
    · rcases hg with rfl | hg | hg | hg
      · exact .inl (.inl rfl)
      · rcases hG.lies g hg with h1 | h1
        · exact .inl (.inr (.inl h1))
        · exact .inr h1
      · exact .inl (.inr (.inr (.inl hg)))
      · exact .inl (.inr (.inr (.inr hg)))
theorem BytesAt.past {w w' : World} {a : Option Addr} {l : List Nat} {o : Option Nat} (h : BytesAt w a l) (hg : w.grownBy w' o) (hne : ∀ b off, a = some ⟨b, off, none⟩ → o ≠ some b) : BytesAt w' a l := by
  refine ⟨h.lt, fun i hi => ?_⟩
  obtain ⟨b, off, e1, e2⟩ := h.cell i hi
  refine ⟨b, off, e1, ?_⟩
  rw [World.cell?_of_block (w := w) (w' := w') (hg.block b (World.block_lt_of_cell? _ _ e2) (fun e => hne b off e1 e.symm))]
  exact e2
set_option maxRecDepth 20000 in
set_option maxHeartbeats 40000000 in
theorem write_none (base : Nat) (w : World) (F : Nat) (f : Fil) (h : FileAt base w F f) (k : Nat) (hk : k ≤ f.b.length) (xp : Option Addr) (xc : Nat) (hx0 : xp = none → xc = 0) (hsz : f.b.length ≤ 140737488355328) (hbs : base ≤ w.heap.size) :
    Calls Tryz.prog 80 #[.pointer (some ⟨F, 0, none⟩), .int .i64 (k : Int), .slice xp 0 xc] w fun e w' => e = .returned (.tuple #[]) ∧ ∃ bp bc, FileAt base w' F (f.over bp bc (overL f.b k [])) ∧ FGrew F w f w' (f.over bp bc (overL f.b k [])) := by
  have c0 := h.c0
  have HL := hide (laid_calls base f.bp f.bc f.b f.b.length k xp 0 xc [] w rfl hk rfl ⟨by simp, by simp⟩ hx0 (Nat.zero_le _) h.bytes (fun h0 => absurd h0 (by simp)) hsz hbs)
  have HO := hide (fun (V : World) (bp : Option Addr) (bc : Nat) (b : List Nat) (hX : Bx base V bp bc b) (hG : Grew w f.bp V bp) => h.over bp bc b hX hG)
  clear h hk hx0 hsz hbs
  generalize f.b.length = n at *
  go_enter Tryz.func80, Tryz.ntmps80
  go_wp2_with (go_at_call 114; refine (unhide HL).mono ?_; rintro e1 V ⟨bp, bc, rfl, hX, hG⟩; obtain ⟨v0, z0, k3, k4⟩ := unhide HO V bp bc _ hX hG; have K3 := hide k3; have K4 := hide k4; clear hX hG k3 k4)
  go_end0
  exact ⟨rfl, bp, bc, unhide K3, unhide K4⟩
set_option maxRecDepth 20000 in
set_option maxHeartbeats 40000000 in
theorem write_some (base : Nat) (w : World) (F : Nat) (f : Fil) (h : FileAt base w F f) (k : Nat) (hk : k ≤ f.b.length) (xp : Option Addr) (xn xc : Nat) (o : List Nat) (ho : o.length = xn) (h0 : 0 < xn) (hxc : xn ≤ xc) (hB : BytesAt w xp o) (hx0 : xp = none → xc = 0) (hne : ∀ b off, xp = some ⟨b, off, none⟩ → ¬ f.mut F b) (hsz : f.b.length + xn ≤ 140737488355328) (hxs : (f.xs.length + 1) * 40 ≤ 140737488355328) (hbs : base ≤ w.heap.size) :
    Calls Tryz.prog 80 #[.pointer (some ⟨F, 0, none⟩), .int .i64 (k : Int), .slice xp xn xc] w fun e w' => e = .returned (.tuple #[]) ∧ ∃ bp bc cp cc dp, FileAt base w' F ((f.over bp bc (overL f.b k o)).more cp cc ((false, k, o), (dp, xn))) ∧ FGrew F w f w' ((f.over bp bc (overL f.b k o)).more cp cc ((false, k, o), (dp, xn))) := by
  subst ho
  have c0 := h.c0
  have HL := hide (laid_calls base f.bp f.bc f.b f.b.length k xp o.length xc o w rfl hk rfl hB hx0 hxc h.bytes (fun _ b off e hb => hne b off e (.inr (.inl hb))) hsz hbs)
  have HO := hide (fun (V : World) (bp : Option Addr) (bc : Nat) (b : List Nat) (hX : Bx base V bp bc b) (hG : Grew w f.bp V bp) => h.over bp bc b hX hG)
  have HB := hide (fun (V : World) (bp : Option Addr) (v : Value) (hG : Grew w f.bp V bp) =>
    show BytesAt (V.setCell ⟨F, 0, none⟩ v) xp o from (hB.past hG.grown (fun b off e hb => hne b off e (.inr (.inl hb)))).past (grown_set V F 0 v) (fun b off e hb => hne b off e (.inl (Option.some.inj hb).symm)))
  have hxl : o.length ≤ 140737488355328 := by omega
  have HZ := hide hx0
  have HX := hide hxs
  have HBS := hide hbs
  have hgt : (0 : Int) < (o.length : Int) := by omega
  clear h hk hx0 hne hsz hbs hB hxs hxc
  generalize f.b.length = n at *
  go_enter Tryz.func80, Tryz.ntmps80
  go_wp2_with (go_at_call 114; refine (unhide HL).mono ?_; rintro e1 V ⟨bp, bc, rfl, hX, hG⟩; obtain ⟨v0, z0, k3, k4⟩ := unhide HO V bp bc _ hX hG; have B1 := hide (unhide HB V bp (.slice bp (overL f.b k o).length bc) hG); have K3 := hide k3; have K4 := hide k4; clear hX hG k3 k4)
  have S1 := hide (Nat.le_trans (unhide HBS) (unhide K4).size)
  generalize V.setCell ⟨F, 0, none⟩ (.slice bp (overL f.b k o).length bc) = W1 at *
  have HX1 := hide (show ((f.over bp bc (overL f.b k o)).xs.length + 1) * 40 ≤ 140737488355328 from unhide HX)
  obtain ⟨f1, hf1⟩ : ∃ f1, f1 = f.over bp bc (overL f.b k o) := ⟨_, rfl⟩
  rw [← hf1] at K3 K4 HX1
  have E1 := hide hf1
  have d3 := (unhide K3).c3
  clear hf1 v0 z0 c0 HL HO HB HX
  go_region_law (first
    | (have hU' : U = U := rfl; clear hU'; refine step_appendC rfl (.tmp 23) (.tmp 28) rfl base f1.cp f1.xs.length f1.cc f1.xs rfl rfl (by exact unhide Oa) U.heap.size ((false, k, o), (dp, o.length)) rfl (by exact unhide Xa) (by exact unhide Da) (unhide HX1) (by exact unhide Sa) ?_; intro cp4 cc4 W4 hC hG; obtain ⟨q1, q2, q3, q4⟩ := (unhide K3).added (unhide bUA) ((false, k, o), (dp, o.length)) (unhide La) cp4 cc4 hC ⟨⟨hG.grown.os, hG.grown.tape, hG.grown.output, hG.grown.size, hG.grown.block⟩, hG.lies⟩; have Q3 := hide q3; have Q4 := hide q4; clear q3 q4 hC hG)
    | (go_simp; go_at_call 77; refine (fresh_calls xp o.length xc o _ rfl hxl (by exact (unhide B1).drew) (unhide HZ)).mono ?_; rintro e1 U ⟨dp, rfl, hdo, hbU⟩; have bU := hide (show Below W1.heap.size W1 U from ⟨hbU.os, hbU.tape, hbU.output, hbU.size, hbU.block⟩); have bA := hide (show Below U.heap.size U (U.alloc (.cells #[.bool false, .int .i64 (k : Int), .slice dp o.length o.length] 152)) from (Below.refl _ _).alloc (Nat.le_refl _) _); have bUA := hide ((unhide bU).trans ((unhide bA).mono (unhide bU).size)); have v3 := ((unhide K3).later (unhide bU)).c3; have a3 := ((unhide K3).later (unhide bUA)).c3; have Oa := hide ((unhide K3).later (unhide bUA)).chs; have Xa := hide (heap_new U (.cells #[.bool false, .int .i64 (k : Int), .slice dp o.length o.length] 152)); have Da := hide ((hdo.mono (show base ≤ W1.heap.size from unhide S1)).later (unhide bA)); have La := hide (show ∀ g, blk dp = some g → W1.heap.size ≤ g from fun g hg => (hdo.isT g hg).1); have Sa := hide (Nat.le_trans (unhide S1) (unhide bUA).size); clear hdo hbU))
  all_goals
    have hE := unhide E1
    subst hE
    go_end0
    exact ⟨rfl, bp, bc, cp4, cc4, dp, unhide Q3, (unhide K4).trans (unhide Q4)⟩
end Go.Proofs.YtijcpmbfhfppmaaGreatDoor
