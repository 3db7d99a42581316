/- Snapshots: the document's gather, new, and how many bytes it has; the nil gather. -/
import Derived.Test.YtagncghpfdjkmaaGreatDoorB35
import Derived.Test.YtagncghpfdjkmaaGreatDoorB15
import Derived.Deep.QuietTactic
import Derived.BigQuiet
import Derived.Test.YtagncghpfdjkmaaGreatDoorB07
import Derived.Deep.Matrix
import Derived.Test.YtagncghpfdjkmaaGreatDoorB34
import Derived.Test.YtagncghpfdjkmaaGreatDoorB25
section
namespace Go.Proofs.YtagncghpfdjkmaaGreatDoor
open Go.ChangeShapes Go.WideShapes Go.ChangeAt Go.RowKit
set_option linter.unusedVariables false

theorem newGatherR_calls (w : World) : Calls Tryz.prog 44 #[] w fun e w' => e = .returned (.pointer (some ⟨w.heap.size, 0, none⟩)) ∧ RgAt w' w.heap.size 0 [] none 0 false 0 ∧ Below w.heap.size w w' := by
  have X1 := hide (heap_new w (.cells #[.bool false, .int .i64 0, .slice none 0 0] 141))
  have B1 := hide (show Below w.heap.size w (w.alloc (.cells #[.bool false, .int .i64 0, .slice none 0 0] 141)) from (Below.refl _ _).alloc (Nat.le_refl _) _)
  go_enter Tryz.func44, Tryz.ntmps44
  go_wp2
  go_ret
  exact ⟨rfl, ⟨unhide X1, OwnB.ofNil _ _, fun h => absurd rfl h, by omega, by simp⟩, unhide B1⟩
theorem rglen_calls {w : World} {R t : Nat} {bs : List Nat} {sp : Option Addr} {cp : Nat} {bg : Bool} {tot : Nat} (hg : RgAt w R t bs sp cp bg tot) : Calls Tryz.prog 48 #[.pointer (some ⟨R, 0, none⟩)] w fun e w' => e = .returned (.int .i64 (bs.length : Int)) ∧ w' = w := by
  have g1 := box_cell hg.row 2 _ rfl
  generalize bs.length = n at *
  clear hg
  go_enter Tryz.func48, Tryz.ntmps48
  go_wp2
  go_ret
  exact ⟨rfl, rfl⟩
theorem glen_nil (w : World) : Calls Tryz.prog 47 #[.pointer none] w fun e w' => e = .returned (.int .i64 0) ∧ w' = w := by
  go_enter Tryz.func47, Tryz.ntmps47
  go_wp2
  go_ret
  exact ⟨rfl, rfl⟩
theorem gadd_nil (w : World) : Calls Tryz.prog 45 #[.pointer none, .slice none 0 0] w fun e w' => e = .returned (.tuple #[.agg #[.int .i64 0, .int .i64 0, .slice none 0 0, .slice none 0 0, .slice none 0 0], .bool false, .int .i64 1]) ∧ Below w.heap.size w w' := by
  have X1 := hide (heap_new w (.cells #[.int .i64 0, .int .i64 0, .slice none 0 0, .slice none 0 0, .slice none 0 0] 29))
  have B1 := hide (show Below w.heap.size w (w.alloc (.cells #[.int .i64 0, .int .i64 0, .slice none 0 0, .slice none 0 0, .slice none 0 0] 29)) from (Below.refl _ _).alloc (Nat.le_refl _) _)
  have c0 := box_cell (unhide X1) 0 _ rfl
  have c1 := box_cell (unhide X1) 1 _ rfl
  have c2 := box_cell (unhide X1) 2 _ rfl
  have c3 := box_cell (unhide X1) 3 _ rfl
  have c4 := box_cell (unhide X1) 4 _ rfl
  go_enter Tryz.func45, Tryz.ntmps45
  go_wp2
  refine bodyPost_ret (v := .tuple #[.agg #[.int .i64 0, .int .i64 0, .slice none 0 0, .slice none 0 0, .slice none 0 0], .bool false, .int .i64 1]) (by simp [results, Tryz.results45, go_sem, c0, c1, c2, c3, c4]) rfl ?_
  exact ⟨rfl, unhide B1⟩
end Go.Proofs.YtagncghpfdjkmaaGreatDoor
end
/- Rows of bytes that are the same. -/
section
namespace Go.Proofs.YtagncghpfdjkmaaGreatDoor
open Go.ChangeShapes Go.WideShapes Go.ChangeAt Go.RowKit
set_option linter.unusedVariables false

/-- Rows of bytes as they lie in memory. -/
def RowsAt (w : World) (sp : Option Addr) (hs : List (List Nat)) : Prop :=
  ∀ i, i < hs.length → ∃ b off p c, sp = some ⟨b, off, none⟩ ∧ w.cell? ⟨b, off + i, none⟩ = some (.slice p (hs.getD i []).length c) ∧ BytesAt w p (hs.getD i [])
theorem OwnS.rows {base : Nat} {w : World} {sp : Option Addr} {n c : Nat} {hs : List (List Nat)} (h : OwnS base w (.slice sp n c) hs) : RowsAt w sp hs := by
  intro i hi
  obtain ⟨cs, ho, hc⟩ := h.ex
  obtain ⟨p, c', h1, h2⟩ := hc i hi
  rcases ho.2 with ⟨_, h0⟩ | ⟨g, cap, cur, hv, _, hg, _, _, _, ht⟩
  · omega
  · simp only [Value.slice.injEq] at hv
    obtain ⟨rfl, _, rfl⟩ := hv
    refine ⟨g, 0, p, c', rfl, ?_, h2.bytes⟩
    rw [cell_of_row w g (0 + i) cur _ _ hg, Nat.zero_add]
    rw [← ht, List.getElem?_take, if_pos (by omega)] at h1
    rw [← Array.getElem?_toList]
    exact h1
theorem RowsAt.later {w w' : World} {sp : Option Addr} {hs : List (List Nat)} (h : RowsAt w sp hs) (hb : Below w.heap.size w w') : RowsAt w' sp hs := by
  intro i hi
  obtain ⟨b, off, p, c, h1, h2, h3⟩ := h i hi
  exact ⟨b, off, p, c, h1, cell_later hb h2, h3.later hb⟩

end Go.Proofs.YtagncghpfdjkmaaGreatDoor
end
/- Rows of bytes that came in, opened, with what each row may weigh. -/
section
namespace Go.Proofs.YtagncghpfdjkmaaGreatDoor
open Go.ChangeShapes Go.WideShapes Go.ChangeAt Go.RowKit
set_option linter.unusedVariables false

/-- Rows of bytes as they lie in memory, each with its room. -/
def RowsX (w : World) (a : Option Addr) (hs : List (List Nat)) : Prop :=
  ∀ i, i < hs.length → ∃ b off p c, a = some ⟨b, off, none⟩ ∧ w.cell? ⟨b, off + i, none⟩ = some (.slice p (hs.getD i []).length c) ∧ BytesAt w p (hs.getD i []) ∧ (hs.getD i []).length ≤ c ∧ (p = none → c = 0) ∧ c ≤ 140737488355328
theorem weights_all {H : Type} {P : Program} {e : TypeId} : ∀ {l : List (DataW H)} {d : DataW H} {n : Nat}, d ∈ l → n ∈ d.weights P e → n ∈ DataW.weightsAll P e l
  | [], d, n, h, _ => by cases h
  | x :: r, d, n, h, hn => by
    unfold DataW.weightsAll
    rcases List.mem_cons.1 h with rfl | h
    · exact List.mem_append_left _ hn
    · exact List.mem_append_right _ (weights_all h hn)
theorem rows8S {H : Type} {enc : TypeId × Value → H} {W : World} {a : Option Addr} {len cap : Nat} {d : DataW H} {p : List MemPlace}
    (h : DataW.Trod enc Tryz.prog W 0 (fun _ => true) true 70 (.slice a len cap) d p) (hw : ∀ n ∈ d.weights Tryz.prog 70, n ≤ reachBytes) :
    ∃ hs : List (List Nat), hs.length = len ∧ len ≤ maxLen ∧ RowsX W a hs := by
  obtain ⟨fuel, hf⟩ := h
  rcases Deep.open_int_rows Tryz.underlying70 Tryz.underlying27 Tryz.underlying5 (by kernel_rfl) (by kernel_rfl) hf with ⟨hcs, _⟩ | ⟨x, l, c, A, L, C, Z, hcs, _, hl, hm, hx, hrow⟩
  · simp [Value.cells] at hcs
    obtain ⟨rfl, rfl, rfl⟩ := hcs
    exact ⟨[], rfl, by simp [maxLen], by intro i hi; simp at hi⟩
  · simp [Value.cells] at hcs
    obtain ⟨rfl, rfl, rfl⟩ := hcs
    have hd := (Prod.mk.inj hx).1
    obtain ⟨f, hfp⟩ := Deep.choose_lt (n := len) (p := fun i (y : List Nat) => y.length = L i ∧ BytesAt W (A i) y) (fun i hi => by
      obtain ⟨_, r2, r3, r4, r5, r6, r7⟩ := hrow i (by omega)
      have hr : IsRow .u8 W (A i) (L i) (C i) (Z i) := by
        cases hA : A i with
        | none =>
          have hC := r6 hA
          exact .inl ⟨rfl, by omega, hC, List.eq_nil_of_length_eq_zero (by omega)⟩
        | some y => exact .inr ⟨y, rfl, r2, r3, r4, fun j hj => (r7 y hA).2 j (by omega), r5⟩
      obtain ⟨y, h1, _, _, _, h5⟩ := isRow_bytes hr
      exact ⟨y, h1, h5⟩)
    refine ⟨(List.range len).map f, by simp, by omega, ?_⟩
    intro i hi
    simp only [List.length_map, List.length_range] at hi
    obtain ⟨r1, r2, r3, r4, r5, r6, r7⟩ := hrow i (by omega)
    obtain ⟨f1, f2⟩ := hfp i hi
    have e : ((List.range len).map f).getD i [] = f i := by
      rw [List.getD_eq_getElem?_getD, List.getElem?_map, List.getElem?_range hi]; rfl
    rw [e]
    obtain ⟨b, off, spot⟩ := x
    have hspot : spot = none := by simpa [Addr.add] using World.cell?_spot (hrow 0 (by omega)).1
    subst hspot
    rw [Addr.add_lit] at r1
    refine ⟨b, off, A i, C i, rfl, by rw [f1]; exact r1, f2, by rw [f1]; exact r2, r6, ?_⟩
    cases hA : A i with
    | none => have := r6 hA; omega
    | some y =>
      have hmem : (Deep.intRow (H := H) .u8 (A i) (L i) (Z i)) ∈ (List.range len).map (fun r => Deep.intRow (H := H) .u8 (A r) (L r) (Z r)) := List.mem_map.2 ⟨i, List.mem_range.2 hi, rfl⟩
      have h4 := hw (C i) (by
        rw [hd]
        unfold DataW.weights
        rw [Tryz.underlying70]
        refine List.mem_cons_of_mem _ (List.mem_append_left _ (weights_all hmem ?_))
        rw [hA]
        unfold Deep.intRow DataW.weights
        rw [Tryz.underlying27]
        dsimp only
        rw [bytes8, Nat.mul_one]
        refine List.mem_cons.2 (.inl ?_)
        simp [lits]
        omega)
      have := reachBytes_lt
      omega
end Go.Proofs.YtagncghpfdjkmaaGreatDoor
end
/- Snapshots: SnapGathers' walk. -/
section
namespace Go.Proofs.YtagncghpfdjkmaaGreatDoor
open Go.ChangeShapes Go.WideShapes Go.ChangeAt Go.RowKit
set_option linter.unusedVariables false

/-- Blocks from lo up to hi may have been written; the others stay. -/
structure KeepX (lo hi : Nat) (u v : World) : Prop where
  os : v.os = u.os
  tape : v.tape = u.tape
  output : v.output = u.output
  size : u.heap.size ≤ v.heap.size
  block : ∀ g, g < u.heap.size → (g < lo ∨ hi ≤ g) → v.heap[g]? = u.heap[g]?
theorem KeepX.refl (lo hi : Nat) (u : World) : KeepX lo hi u u := ⟨rfl, rfl, rfl, Nat.le_refl _, fun _ _ _ => rfl⟩
theorem KeepX.step {lo hi g : Nat} {u v v' : World} (h : KeepX lo hi u v) (k : v.grownBy v' (some g)) (h1 : lo ≤ g) (h2 : g < hi) : KeepX lo hi u v' :=
  ⟨k.os.trans h.os, k.tape.trans h.tape, k.output.trans h.output, Nat.le_trans h.size k.size, fun j hj ho => (k.block j (Nat.lt_of_lt_of_le hj h.size) (fun e => by have := Option.some.inj e; omega)).trans (h.block j hj ho)⟩
theorem KeepX.below {lo hi B : Nat} {u v : World} (h : KeepX lo hi u v) (hB : B ≤ lo) (hl : B ≤ u.heap.size) : Below B u v := ⟨h.os, h.tape, h.output, h.size, fun j hj => h.block j (by omega) (by omega)⟩
theorem GFr.keepX {w w' : World} {R : Nat} (f : GFr w w' R none) : KeepX R (R + 1) w w' := ⟨f.os, f.tape, f.output, f.size, fun g hg ho => f.block g hg (by omega) (fun e => by cases e)⟩
theorem SnAt.keepX {lo hi : Nat} {u v : World} {s : Sn} {h : SnH} (z : SnAt u s h) (k : KeepX lo hi u v) (hf : ∀ ad, h.va = some ad ∨ h.la = some ad ∨ h.dp = some ad → hi ≤ ad.block) : SnAt v s h := by
  have key : ∀ (b off : Nat) (x : Value), u.cell? ⟨b, off, none⟩ = some x → hi ≤ b → v.cell? ⟨b, off, none⟩ = some x := fun b off x hc hb => (World.cell?_of_block (a := ⟨b, off, none⟩) (k.block b (cell_lt hc) (.inr hb))).trans hc
  refine ⟨z.bi, z.bt, ⟨z.v.bd, fun i hi => ?_⟩, ⟨z.l.bd, fun i hi => ?_⟩, ⟨z.d.lt, fun i hi => ?_⟩, z.vn, z.ln, z.dn, z.dm, z.dz⟩
  · obtain ⟨b, off, e, hc⟩ := z.v.cell i hi
    exact ⟨b, off, e, key b _ _ hc (hf _ (.inl e))⟩
  · obtain ⟨b, off, e, hc⟩ := z.l.cell i hi
    exact ⟨b, off, e, key b _ _ hc (hf _ (.inr (.inl e)))⟩
  · obtain ⟨b, off, e, hc⟩ := z.d.cell i hi
    exact ⟨b, off, e, key b _ _ hc (hf _ (.inr (.inr e)))⟩
theorem OwnB.keepX {lo hi base : Nat} {u v : World} {sp : Option Addr} {c : Nat} {l : List Nat} (h : OwnB base u sp c l) (k : KeepX lo hi u v) (hf : ∀ x, blk sp = some x → x < lo ∨ hi ≤ x) : OwnB base v sp c l := h.stays (fun g e => k.block g (h.blkLt g e) (hf g e))
theorem GaAt.keepX {lo hi : Nat} {u v : World} {G t : Nat} {bs : List Nat} {sp : Option Addr} {cp : Nat} (h : GaAt u G t bs sp cp) (k : KeepX lo hi u v) (hg : G < lo ∨ hi ≤ G) (hf : ∀ x, blk sp = some x → x < lo ∨ hi ≤ x) : GaAt v G t bs sp cp := h.keep (k.block G h.ltG hg) (fun g e => k.block g (h.own.blkLt g e) (hf g e))
theorem RgAt.keepX {lo hi : Nat} {u v : World} {R t : Nat} {bs : List Nat} {sp : Option Addr} {cp : Nat} {bg : Bool} {tot : Nat} (h : RgAt u R t bs sp cp bg tot) (k : KeepX lo hi u v) (hg : R < lo ∨ hi ≤ R) (hf : ∀ x, blk sp = some x → x < lo ∨ hi ≤ x) : RgAt v R t bs sp cp bg tot := h.keep (k.block R h.ltR hg) (fun g e => k.block g (h.own.blkLt g e) (hf g e))
theorem xor33 (x : Nat) (hx : x < 256) : ∃ y : Nat, bits .xor .u8 (x : Int) 33 = (y : Int) ∧ y < 256 := by
  have key : ∀ x : Fin 256, ∃ y : Fin 256, bits .xor .u8 ((x.val : Nat) : Int) 33 = ((y.val : Nat) : Int) := by decide +kernel
  obtain ⟨y, hy⟩ := key ⟨x, hx⟩
  exact ⟨y.val, hy, y.isLt⟩
/-- Where what was gathered lies. -/
def Lie (G : Nat) (sg sr : Option Addr) : Prop := (∀ x, blk sg = some x → G ≤ x ∧ blk sr ≠ some x) ∧ (∀ x, blk sr = some x → G ≤ x)
end Go.Proofs.YtagncghpfdjkmaaGreatDoor
namespace Go.Proofs.YtagncghpfdjkmaaGreatDoor.snapGathers
open Go.ChangeShapes Go.WideShapes Go.ChangeAt Go.RowKit
set_option linter.unusedVariables false
set_option maxRecDepth 20000 in
set_option maxHeartbeats 16000000 in
theorem walk0 (a : Option Addr) (c : Nat) (hs : List (List Nat)) (w : World) (hx : hs.length ≤ maxLen) (hr : RowsX w a hs) (hTz : Tz w) :
    Calls Tryz.prog 12 #[.slice a hs.length c] w fun e w' => e = .returned (.bool true) ∧ Below w.heap.size w w' := by
  have TZ := hide hTz
  have HR := hide hr
  have NC := hide (newGather_calls w)
  simp only [maxLen] at hx
  clear hr hTz
  generalize hn : hs.length = n at *
  have HN := hide hn
  clear hn
  go_enter Tryz.func12, Tryz.ntmps12
  go_wp2_with fail
  go_at_call 43
  refine (unhide NC).mono ?_
  rintro e V1 ⟨rfl, g1, v1⟩
  have RC := hide (newGatherR_calls V1)
  have G1 := hide g1
  have U1 := hide v1
  clear g1 v1 NC
  go_wp2_with fail
  go_at_call 44
  refine (unhide RC).mono ?_
  rintro e V2 ⟨rfl, r2, v2⟩
  have G2 := hide ((unhide G1).later v2)
  have R2 := hide r2
  have U2 := hide ((unhide U1).trans (v2.mono (unhide U1).size))
  have GR := hide (show w.heap.size < V1.heap.size from (unhide G1).ltG)
  have FL := hide (show ∀ V, Below w.heap.size w V → Below w.heap.size w V from fun V u => u)
  clear r2 v2 RC G1 U1
  have WS := hide (Nat.le_refl w.heap.size)
  have CLX := hide (show ∀ V, Below w.heap.size w V → ∀ (ad : Addr) v, w.cell? ad = some v → V.cell? ad = some v from fun V u ad v h => cell_later u h)
  have BLX := hide (show ∀ V, Below w.heap.size w V → ∀ p l, BytesAt w p l → BytesAt V p l from fun V u p l h => h.later u)
  have TZX := hide (show ∀ V, Below w.heap.size w V → Tz V from fun V u => (unhide TZ).later u)
  have PBX := hide (show ∀ p l, BytesAt w p l → ∀ ad, p = some ad → 0 < l.length → ad.block < w.heap.size from fun p l h ad e h0 => by
    obtain ⟨b, off, e', hc⟩ := h.cell 0 h0
    rw [e] at e'
    cases e'
    exact cell_lt hc)
  have LSX := hide (show ∀ V, Below w.heap.size w V → w.heap.size ≤ V.heap.size from fun V u => u.size)
  generalize hGG : w.heap.size = G at *
  have HGG := hide hGG
  clear hGG
  generalize V1.heap.size = R at *
  go_wp2_with fail
  go_loopw [5] (fun i wr => ∃ (j t : Nat) (bs : List Nat) (sg : Option Addr) (cg : Nat) (sr : Option Addr) (cr : Nat) (bg : Bool) (tot : Nat), j ≤ n ∧ j ≤ 60 ∧ i = .int .i64 (j : Int) ∧ Hid (GaAt wr G t bs sg cg) ∧ Hid (RgAt wr R t bs sr cr bg tot) ∧ Hid (Lie G sg sr) ∧ Hid (Below G w wr)) (fun i _ => n - (intOf i).toNat)
  case atStart => exact ⟨0, 0, [], none, 0, none, 0, false, 0, by omega, by omega, rfl, G2, R2, ⟨(fun x e => by cases e), (fun x e => by cases e)⟩, U2⟩
  case round =>
    obtain ⟨j, t, bs, sg, cg, sr, cr, bg, tot, hj, hj6, rfl, hGa, hRg, hLie, hB⟩ := hrel
    obtain ⟨wo, hwo⟩ : ∃ wo, wo = wr := ⟨_, rfl⟩
    subst hwo
    clear G2 R2 U2
    have LW := hide (unhide LSX wo (unhide hB))
    by_cases hjn : j < n
    · by_cases hj60 : j < 60
      · have hj0 : (0 : Int) ≤ (j : Int) := by omega
        have hj1 : (j : Int) < (n : Int) := by omega
        have hj2 : (j : Int) < 60 := by omega
        obtain ⟨b, off, p, cp, ha, hcell, hby, hle, hnz, hcx⟩ := unhide HR j (by rw [unhide HN]; exact hjn)
        subst ha
        have CL := hide (show ∀ V, Below G w V → V.cell? ⟨b, off + j, none⟩ = some (.slice p (hs.getD j []).length cp) from fun V u => unhide CLX V u _ _ hcell)
        have BY := hide (show ∀ V, Below G w V → BytesAt V p (hs.getD j []) from fun V u => unhide BLX V u _ _ hby)
        have PB := hide (unhide PBX p _ hby)
        generalize hs.getD j [] = row at *
        generalize hm : row.length = m at *
        have HM := hide hm
        have HNZ := hide hnz
        clear hcell hby hm hnz
        have A1 := hide (show Below wo.heap.size wo (wo.alloc (.cells #[] 5)) from (Below.refl _ _).alloc (Nat.le_refl _) _)
        have OE := hide (OwnB.empty wo wo.heap.size (Nat.le_refl _))
        have B1 := hide ((unhide hB).trans ((unhide A1).mono (unhide LW)))
        have p0 := unhide CL wo (unhide hB)
        have p1 := unhide CL _ (unhide B1)
        go_wp2_with (at_builtin; refine unhide ?_)
        refine hide ?_
        refine wpList_append8 rfl (.tmp 30) (.tmp 34) rfl wo.heap.size (some ⟨wo.heap.size, 0, none⟩) 0 0 [] rfl rfl (by exact unhide OE) p m cp rfl row (unhide HM) (by exact unhide BY _ (unhide B1)) (unhide HNZ) (by simp only [List.length_nil]; omega) (by exact (unhide A1).size) ?_
        intro sO nO cO V hnO hoO hgO hbO
        rw [List.nil_append] at hnO hoO
        have e0 : m = nO := (unhide HM).symm.trans (unhide hnO)
        subst e0
        have U3 := hide ((unhide A1).trans hbO)
        have B3 := hide ((unhide hB).trans ((unhide U3).mono (unhide LW)))
        have O3 := hide hoO
        have G3 := hide ((unhide hGa).later (unhide U3))
        have R3 := hide ((unhide hRg).later (unhide U3))
        have OB := hide (show ∀ x, blk sO = some x → wo.heap.size ≤ x ∧ x < V.heap.size from fun x e => hoO.blk_lt x e)
        have SGL := hide (show ∀ x, blk sg = some x → x < wo.heap.size from (unhide hGa).own.blkLt)
        have SRL := hide (show ∀ x, blk sr = some x → x < wo.heap.size from (unhide hRg).own.blkLt)
        have GL := hide (unhide hGa).ltG
        have RL := hide (unhide hRg).ltR
        have LV := hide (show wo.heap.size ≤ V.heap.size from (unhide U3).size)
        have AC := hide (gadd_calls sO m cO row V (unhide HM) (by have := hoO.cap.1; rw [unhide HM] at this; exact this) (by omega) hoO.nil0 hoO.bytes G t bs sg cg (unhide G3) (fun ad e _ => by
          obtain ⟨h1, h2⟩ := unhide OB ad.block (by rw [e]; rfl)
          exact ⟨by have := unhide GL; omega, fun q => by have := unhide SGL _ q; omega, h2⟩))
        have NSR := hide (show blk sg ≠ some R from (unhide hGa).own.neT (unhide hRg).row (by decide))
        have NRG := hide (show blk sr ≠ some G from (unhide hRg).own.neT (unhide hGa).row (by decide))
        clear hnO hoO hgO hbO p0 p1 OE hGa hRg
        go_wp2_with fail
        go_at_call 45
        refine (unhide AC).mono ?_
        rintro e V4 ⟨h4, sg4, cg4, rfl, s4, fr4, g4, f4, hs4⟩
        obtain ⟨ga, hga⟩ : ∃ ga, gAdd t bs row = ga := ⟨_, rfl⟩
        rw [hga] at s4 g4 ⊢
        have HGA := hide hga
        clear hga AC
        obtain ⟨S, D, E, T, Bs⟩ := ga
        dsimp only at s4 g4 ⊢
        unfold snRow
        have A5 := hide (show Below V4.heap.size V4 (V4.alloc (.cells #[.int .i64 S.i, .int .i64 S.t, .slice h4.va S.v.length h4.vc, .slice h4.la S.l.length h4.lc, .slice h4.dp S.d.length h4.dc] 29)) from (Below.refl _ _).alloc (Nat.le_refl _) _)
        have X5 := hide (heap_new V4 (.cells #[.int .i64 S.i, .int .i64 S.t, .slice h4.va S.v.length h4.vc, .slice h4.la S.l.length h4.lc, .slice h4.dp S.d.length h4.dc] 29))
        have R4 := hide ((unhide R3).keep (f4.block R (by have h1 := unhide RL; have h2 := unhide LV; omega) (by have := unhide GR; omega) (unhide NSR)) (fun x e => f4.block x (by have h1 := unhide SRL x e; have h2 := unhide LV; omega) (fun q => unhide NRG (by rw [← q]; exact e)) (fun q => ((unhide hLie).1 x q).2 e)))
        have O4 := hide ((unhide O3).stays (fun x e => f4.block x (unhide OB x e).2 (fun q => by have h1 := (unhide OB x e).1; have h2 := unhide GL; omega) (fun q => by have h1 := (unhide OB x e).1; have h2 := unhide SGL x q; omega)))
        have LG := hide (show G ≤ V.heap.size from Nat.le_trans (unhide LW) (unhide LV))
        have B4 := hide ((unhide B3).trans (f4.below (Nat.le_refl _) (fun x e => ((unhide hLie).1 x e).1) (unhide LG)))
        have L4 := hide f4.size
        have G4 := hide g4
        have S4 := hide s4
        have FR4 := hide fr4
        have HS4 := hide hs4
        have B5 := hide ((unhide B4).trans ((unhide A5).mono (Nat.le_trans (unhide LG) (unhide L4))))
        have R5 := hide ((unhide R4).later (unhide A5))
        have G5 := hide ((unhide G4).later (unhide A5))
        have O5 := hide ((unhide O4).later (unhide A5))
        have S5 := hide ((unhide S4).later (unhide A5))
        have L5 := hide (show V4.heap.size ≤ (V4.alloc (.cells #[.int .i64 S.i, .int .i64 S.t, .slice h4.va S.v.length h4.vc, .slice h4.la S.l.length h4.lc, .slice h4.dp S.d.length h4.dc] 29)).heap.size from (unhide A5).size)
        have RC := hide (raddR_calls p m cp row _ (unhide HM) hle (by omega) (unhide HNZ) (unhide BY _ (unhide B5)) R t bs sr cr bg tot (unhide R5) (fun ad e h0 => by
          have h1 := unhide PB ad e (by rw [unhide HM] at h0; exact h0)
          have h2 := unhide GR
          have h3 := unhide LG
          have h4 := unhide L4
          have h5 := unhide L5
          exact ⟨by omega, by omega⟩))
        rw [unhide HGA] at RC
        have q0 := unhide CL _ (unhide B5)
        clear s4 fr4 g4 f4 hs4
        go_wp2_with fail
        clear q0
        have SGB := hide (show ∀ x, blk sg4 = some x → x < V4.heap.size from (unhide G4).own.blkLt)
        generalize V4.alloc _ = V5 at *
        go_at_call 46
        refine (unhide RC).mono ?_
        rintro e V6 ⟨h6, sr6, cr6, bg6, tot6, rfl, s6, fr6, g6, f6, hs6⟩
        dsimp only at s6 g6 ⊢
        unfold snRow
        have K6 := hide f6.keepX
        have A7 := hide (show Below V6.heap.size V6 (V6.alloc (.cells #[.int .i64 S.i, .int .i64 S.t, .slice h6.va S.v.length h6.vc, .slice h6.la S.l.length h6.lc, .slice h6.dp S.d.length h6.dc] 29)) from (Below.refl _ _).alloc (Nat.le_refl _) _)
        have X7 := hide (heap_new V6 (.cells #[.int .i64 S.i, .int .i64 S.t, .slice h6.va S.v.length h6.vc, .slice h6.la S.l.length h6.lc, .slice h6.dp S.d.length h6.dc] 29))
        have RV := hide (show R < V.heap.size from by have h1 := unhide RL; have h2 := unhide LV; omega)
        have NS4 := hide (show blk sg4 ≠ some R from (unhide G5).own.neT (unhide R5).row (by decide))
        have G7 := hide (((unhide G5).keepX (unhide K6) (.inl (unhide GR)) (fun x e => by have : x ≠ R := fun q => unhide NS4 (by rw [← q]; exact e); omega)).later (unhide A7))
        have R7 := hide (g6.later (unhide A7))
        have O7 := hide (((unhide O5).keepX (unhide K6) (fun x e => by have h1 := (unhide OB x e).1; have h2 := unhide RL; omega)).later (unhide A7))
        have S7 := hide (((unhide S5).keepX (unhide K6) (fun ad e => by have h1 := unhide FR4 ad e; have h2 := unhide RV; omega)).later (unhide A7))
        have T7 := hide (s6.later (unhide A7))
        have X6 := hide (later_block (unhide A7) (((unhide K6).block V4.heap.size (Array.getElem?_eq_some_iff.1 (unhide X5)).1 (by have h1 := unhide L4; have h2 := unhide RV; omega)).trans (unhide X5)))
        have L6 := hide (show V5.heap.size ≤ V6.heap.size from f6.size)
        have B6 := hide ((unhide B5).trans ((unhide K6).below (Nat.le_of_lt (unhide GR)) (by have h1 := unhide LG; have h2 := unhide L4; have h3 := unhide L5; omega)))
        have B7 := hide ((unhide B6).trans ((unhide A7).mono (by have h1 := unhide LG; have h2 := unhide L4; have h3 := unhide L5; have h4 := unhide L6; omega)))
        have L7 := hide (show V6.heap.size ≤ (V6.alloc (.cells #[.int .i64 S.i, .int .i64 S.t, .slice h6.va S.v.length h6.vc, .slice h6.la S.l.length h6.lc, .slice h6.dp S.d.length h6.dc] 29)).heap.size from (unhide A7).size)
        have FR6 := hide fr6
        have HS6 := hide hs6
        have LIE := hide (show Lie G sg4 sr6 from ⟨fun x e => by
            have h0 := unhide SGB x e
            have h5 := unhide L5
            refine ⟨?_, fun q => ?_⟩
            · rcases unhide HS4 x e with h | h
              · exact ((unhide hLie).1 x h).1
              · have := unhide LG; omega
            · rcases unhide HS6 x q with h2 | h2
              · rcases unhide HS4 x e with h | h
                · exact ((unhide hLie).1 x h).2 h2
                · have h3 := unhide SRL x h2
                  have h4 := unhide LV
                  omega
              · omega, fun x e => by
            rcases unhide HS6 x e with h | h
            · exact (unhide hLie).2 x h
            · have h1 := unhide LG
              have h2 := unhide L4
              have h3 := unhide L5
              omega⟩)
        clear s6 fr6 g6 f6 hs6 RC
        go_wp2_with fail
        generalize V6.alloc _ = V7 at *
        have HE4 := hide (show V4.heap.size = V4.heap.size from rfl)
        generalize hE4 : V4.heap.size = E4 at *
        generalize hE6 : V6.heap.size = E6 at *
        go_loopw [13] (fun i w3 => ∃ (q : Nat) (l : List Nat), q ≤ m ∧ i = .int .i64 (q : Int) ∧ Hid (l.length = m) ∧ Hid (OwnB wo.heap.size w3 sO cO l) ∧ Hid (KeepX wo.heap.size V.heap.size V7 w3)) (fun i _ => m - (intOf i).toNat)
        case atStart => exact ⟨0, row, by omega, rfl, HM, O7, KeepX.refl _ _ _⟩
        case round =>
          obtain ⟨q, l, hq, rfl, HL, HO, HK⟩ := hrel
          by_cases hqm : q < m
          · as_aux_lemma =>
            have hql : q < l.length := by rw [unhide HL]; exact hqm
            obtain ⟨y, hy, hy2⟩ := xor33 (l.getD q 0) ((unhide HO).getLt q hql)
            obtain ⟨g, rfl, hbg, hc0, hf0, hO', hgr, _⟩ := (unhide HO).setAt q hql y hy2
            have O8 := hide hO'
            have K8 := hide ((unhide HK).step hgr hbg (unhide OB g rfl).2)
            have L8 := hide (show (l.set q y).length = m by rw [List.length_set]; exact unhide HL)
            have z0 : (0 : Int) ≤ (q : Int) := by omega
            have z1 : (q : Int) < (m : Int) := by omega
            generalize l.getD q 0 = yy at *
            clear hO' hgr
            go_wp2_with fail
            exact ⟨⟨q + 1, l.set q y, by omega, by go_num, L8, O8, K8⟩, by simp [intOf]; omega⟩
          · as_aux_lemma =>
            have z1 : ¬ (q : Int) < (m : Int) := by omega
            have LA := hide (show ∀ x, x < wo.heap.size ∨ V.heap.size ≤ x → x < wo.heap.size ∨ V.heap.size ≤ x from fun x h => h)
            have G8 := hide ((unhide G7).keepX (unhide HK) (.inl (unhide GL)) (fun x e => by
              rcases unhide HS4 x e with h | h
              · exact .inl (unhide SGL x h)
              · exact .inr h))
            have R8 := hide ((unhide R7).keepX (unhide HK) (.inl (unhide RL)) (fun x e => by
              rcases unhide HS6 x e with h | h
              · exact .inl (unhide SRL x h)
              · refine .inr ?_
                have h1 := unhide L4
                have h2 := unhide L5
                omega))
            have S8 := hide ((unhide S7).keepX (unhide HK) (fun ad e => unhide FR4 ad e))
            have T8 := hide ((unhide T7).keepX (unhide HK) (fun ad e => by
              have h0 := unhide FR6 ad e
              have h1 := unhide L4
              have h2 := unhide L5
              omega))
            have XA := hide (((unhide HK).block E4 (Array.getElem?_eq_some_iff.1 (unhide X6)).1 (.inr (unhide L4))).trans (unhide X6))
            have XB := hide (((unhide HK).block E6 (Array.getElem?_eq_some_iff.1 (unhide X7)).1 (.inr (by have h1 := unhide L4; have h2 := unhide L5; have h3 := unhide L6; omega))).trans (unhide X7))
            have B8 := hide ((unhide B7).trans ((unhide HK).below (unhide LW) (by have h1 := unhide LG; have h2 := unhide L4; have h3 := unhide L5; have h4 := unhide L6; have h5 := unhide L7; omega)))
            have SC := hide (sameS_yes S h4 h6 wr (unhide S8) (unhide T8))
            unfold snRow at SC
            have b0 := box_cell (unhide XA) 0 _ rfl
            have b1 := box_cell (unhide XA) 1 _ rfl
            have b2 := box_cell (unhide XA) 2 _ rfl
            have b3 := box_cell (unhide XA) 3 _ rfl
            have b4 := box_cell (unhide XA) 4 _ rfl
            have c0 := box_cell (unhide XB) 0 _ rfl
            have c1 := box_cell (unhide XB) 1 _ rfl
            have c2 := box_cell (unhide XB) 2 _ rfl
            have c3 := box_cell (unhide XB) 3 _ rfl
            have c4 := box_cell (unhide XB) 4 _ rfl
            generalize ((E : Nat) : Int) = ei at *
            have y1 : (ei != ei) = false := by simp
            have y2 : (D != D) = false := by simp
            clear S7 T7 O7 X6 X7 G7 R7 S5 O5 G5 R5 G4 S4 R4 O4 R3 G3
            go_wp2_with fail
            clear b0 b1 b2 b3 b4 c0 c1 c2 c3 c4
            go_at_call 18
            refine (unhide SC).mono ?_
            rintro e V9 ⟨rfl, v9⟩
            have G9 := hide ((unhide G8).later v9)
            have R9 := hide ((unhide R8).later v9)
            have B9 := hide ((unhide B8).trans (v9.mono (unhide LSX _ (unhide B8))))
            have C1 := hide (glen_calls (unhide G9))
            have C2 := hide (rglen_calls (unhide R9))
            clear v9 SC
            go_wp2_with fail
            go_at_call 47
            refine (unhide C1).mono ?_
            rintro e W9 ⟨rfl, rfl⟩
            go_wp2_with fail
            go_at_call 48
            refine (unhide C2).mono ?_
            rintro e W9 ⟨rfl, rfl⟩
            have y3 : ((Bs.length : Int) != (Bs.length : Int)) = false := by simp
            go_wp2
            exact ⟨⟨j + 1, T, Bs, sg4, cg4, sr6, cr6, bg6, tot6, by omega, by omega, by go_num, G9, R9, LIE, B9⟩, by simp [intOf]; omega⟩
      · have hj2 : ¬ (j : Int) < 60 := by omega
        have hj1 : (j : Int) < (n : Int) := by omega
        as_aux_lemma =>
        have A8 := hide (show ∀ V8 : World, Below V8.heap.size V8 (V8.alloc (.cells #[.int .i64 0, .int .i64 0, .slice none 0 0, .slice none 0 0, .slice none 0 0] 29)) from fun V8 => (Below.refl _ _).alloc (Nat.le_refl _) _)
        go_wp2_with fail
        go_at_call 45
        refine (gadd_nil _).mono ?_
        rintro e V8 ⟨rfl, v8⟩
        have B8 := hide ((unhide hB).trans (v8.mono (unhide LW)))
        have B9 := hide ((unhide B8).trans ((unhide A8 V8).mono (unhide LSX _ (unhide B8))))
        clear v8 A8
        go_wp2_with fail
        generalize V8.alloc _ = V9 at *
        go_at_call 17
        refine (live7_calls _ (unhide TZX _ (unhide B9))).mono ?_
        rintro e V10 ⟨rfl, v10⟩
        have FF := hide ((unhide B9).trans (v10.mono (unhide LSX _ (unhide B9))))
        clear v10
        go_wp2_with fail
        go_at_call 47
        refine (glen_nil _).mono ?_
        rintro e V11 ⟨rfl, rfl⟩
        go_wp2
        go_ret
        exact ⟨by first | rfl | simp, by rw [unhide HGG]; exact unhide FF⟩
    · have hj1 : ¬ (j : Int) < (n : Int) := by omega
      as_aux_lemma =>
      have A8 := hide (show ∀ V8 : World, Below V8.heap.size V8 (V8.alloc (.cells #[.int .i64 0, .int .i64 0, .slice none 0 0, .slice none 0 0, .slice none 0 0] 29)) from fun V8 => (Below.refl _ _).alloc (Nat.le_refl _) _)
      go_wp2_with fail
      go_at_call 45
      refine (gadd_nil _).mono ?_
      rintro e V8 ⟨rfl, v8⟩
      have B8 := hide ((unhide hB).trans (v8.mono (unhide LW)))
      have B9 := hide ((unhide B8).trans ((unhide A8 V8).mono (unhide LSX _ (unhide B8))))
      clear v8 A8
      go_wp2_with fail
      generalize V8.alloc _ = V9 at *
      go_at_call 17
      refine (live7_calls _ (unhide TZX _ (unhide B9))).mono ?_
      rintro e V10 ⟨rfl, v10⟩
      have FF := hide ((unhide B9).trans (v10.mono (unhide LSX _ (unhide B9))))
      clear v10
      go_wp2_with fail
      go_at_call 47
      refine (glen_nil _).mono ?_
      rintro e V11 ⟨rfl, rfl⟩
      go_wp2
      go_ret
      exact ⟨by first | rfl | simp, by rw [unhide HGG]; exact unhide FF⟩
end Go.Proofs.YtagncghpfdjkmaaGreatDoor.snapGathers
end
