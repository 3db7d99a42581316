/- Flight, the document's answer: add, Send, Double. -/
import Derived.Test.YticemhnfcelpmaaRf6
namespace Go.Proofs.Yticemhnfcelpmaa
open Go.ChangeShapes Go.WideShapes Go.ChangeAt Go.RowKit

/-- A packet's bytes are laid, and there is room for the packet. -/
structure Lain (base : Nat) (w V : World) (P : Nat) (dp : Option Addr) (dc : Nat) (l : List Nat) : Prop where
  bel : Below w.heap.size w V
  own : OwnB base V dp dc l
  zp : V.heap[P]? = some zPk
  geP : w.heap.size ≤ P
theorem Lain.after {base : Nat} {w W V : World} {P buf : Nat} {dp : Option Addr} {dc : Nat} {l : List Nat} (hW : Below w.heap.size w W) (hP : W.heap[P]? = some zPk) (hge : w.heap.size ≤ P) (hb : w.heap.size ≤ buf) (hne : P ≠ buf) (hg : W.grownBy V (some buf)) (ho : OwnB base V dp dc l) : Lain base w V P dp dc l :=
  ⟨hW.grown hg hW.size (fun g h => by have := Option.some.inj h; omega), ho, grown_block hg hP hne, hge⟩
theorem Lain.fresh {base : Nat} {w W V : World} {buf : Nat} {dp : Option Addr} {dc : Nat} {l : List Nat} (hW : Below w.heap.size w W) (hb : w.heap.size ≤ buf) (hg : W.grownBy V (some buf)) (ho : OwnB base V dp dc l) : Lain base w (V.alloc zPk) V.heap.size dp dc l := by
  have h1 : Below w.heap.size w V := hW.grown hg hW.size (fun g h => by have := Option.some.inj h; omega)
  have h2 : Below V.heap.size V (V.alloc zPk) := (Below.refl _ _).alloc (Nat.le_refl _) _
  exact ⟨h1.trans (h2.mono h1.size), ho.later h2, heap_new _ _, h1.size⟩
theorem Lain.cells {base : Nat} {w V : World} {P : Nat} {dp : Option Addr} {dc : Nat} {l : List Nat} (h : Lain base w V P dp dc l) : V.cell? ⟨P, 0, none⟩ = some (.int .i64 0) ∧ V.cell? ⟨P, 1, none⟩ = some (.int .i64 0) ∧ V.cell? ⟨P, 2, none⟩ = some (.int .i64 0) ∧ V.cell? ⟨P, 3, none⟩ = some (.slice none 0 0) ∧ ∀ k, V.frozen? ⟨P, k, none⟩ = false :=
  ⟨box_cell h.zp 0 _ rfl, box_cell h.zp 1 _ rfl, box_cell h.zp 2 _ rfl, box_cell h.zp 3 _ rfl, box_free h.zp⟩
/-- The packet is laid. -/
structure Packd (base : Nat) (w W : World) (P : Nat) (id f t : Int) (dp : Option Addr) (dc : Nat) (l : List Nat) : Prop where
  bel : Below w.heap.size w W
  own : OwnB base W dp dc l
  pk : W.heap[P]? = some (.cells #[.int .i64 id, .int .i64 f, .int .i64 t, .slice dp l.length dc] 35 (0, 0))
  geP : w.heap.size ≤ P
theorem Lain.pack {base : Nat} {w V : World} {P : Nat} {dp : Option Addr} {dc : Nat} {l : List Nat} (h : Lain base w V P dp dc l) (id f t : Int) : Packd base w ((((V.setCell ⟨P, 0, none⟩ (.int .i64 id)).setCell ⟨P, 1, none⟩ (.int .i64 f)).setCell ⟨P, 2, none⟩ (.int .i64 t)).setCell ⟨P, 3, none⟩ (.slice dp l.length dc)) P id f t dp dc l := by
  have s1 := row_set (cur := [.int .i64 0, .int .i64 0, .int .i64 0, .slice none 0 0]) h.zp 0 (.int .i64 id)
  have s2 := row_set s1 1 (.int .i64 f)
  have s3 := row_set s2 2 (.int .i64 t)
  have s4 := row_set s3 3 (.slice dp l.length dc)
  have hne : ∀ g, blk dp = some g → some P ≠ some g := fun g hg e => h.own.ne_block h.zp (by decide) (hg.trans e.symm)
  have o1 := h.own.grownNe (grown_set V P 0 (.int .i64 id)) hne
  have o2 := o1.grownNe (grown_set _ P 1 (.int .i64 f)) hne
  have o3 := o2.grownNe (grown_set _ P 2 (.int .i64 t)) hne
  have o4 := o3.grownNe (grown_set _ P 3 (.slice dp l.length dc)) hne
  have hge : ∀ g, some P = some g → w.heap.size ≤ g := fun g e => Option.some.inj e ▸ h.geP
  have b1 := h.bel.grown (grown_set V P 0 (.int .i64 id)) h.bel.size hge
  have b2 := b1.grown (grown_set _ P 1 (.int .i64 f)) b1.size hge
  have b3 := b2.grown (grown_set _ P 2 (.int .i64 t)) b2.size hge
  have b4 := b3.grown (grown_set _ P 3 (.slice dp l.length dc)) b3.size hge
  exact ⟨b4, o4, s4, h.geP⟩
theorem Packd.fresh {base : Nat} {w V : World} {dp : Option Addr} {dc : Nat} {l : List Nat} (hV : Below w.heap.size w V) (ho : OwnB base V dp dc l) (id f t : Int) : Packd base w (V.alloc (.cells #[.int .i64 id, .int .i64 f, .int .i64 t, .slice dp l.length dc] 35)) V.heap.size id f t dp dc l := by
  have h2 : Below V.heap.size V (V.alloc (.cells #[.int .i64 id, .int .i64 f, .int .i64 t, .slice dp l.length dc] 35)) := (Below.refl _ _).alloc (Nat.le_refl _) _
  exact ⟨hV.trans (h2.mono hV.size), ho.later h2, heap_new _ _, hV.size⟩
theorem OwnS.drew {base : Nat} {w : World} {sp : Option Addr} {c : Nat} {zs : List SPk} (h : OwnS base w sp c zs) : OwnS base w.drew sp c zs := ⟨h.row, fun z hz => ⟨(h.dat z hz).owns, (h.dat z hz).lt⟩⟩
section
variable {base : Nat} {w : World} {R : Nat} {sp : Option Addr} {c : Nat} {zs : List SPk} {pa : List Bool} {ck : List Int}
theorem RGrew.ofDrew {w' : World} {sp' : Option Addr} (h : RGrew R w.drew sp w' sp') : RGrew R w sp w' sp' := ⟨h.os, h.tape, h.output, h.size, h.block, h.lies⟩
theorem RefAt.setRow {W : World} {sp' : Option Addr} {c' : Nat} {zs' : List SPk} (h : RefAt base w R sp c zs pa ck) (hR : W.heap[R]? = w.heap[R]?) (ho : OwnS base W sp' c' zs') : RefAt base (W.setCell ⟨R, 0, none⟩ (.slice sp' zs'.length c')) R sp' c' zs' pa ck :=
  ⟨row_set (hR.trans h.blk) 0 _, ho.far (grown_set W R 0 _) (hR.trans h.blk) (by decide) (by decide), h.low, h.hundred, h.ten⟩
set_option maxRecDepth 20000 in
set_option maxHeartbeats 8000000 in
theorem add_fresh (h : RefAt base w R sp c zs pa ck) (hz : zs.length ≤ 1000) (f t : Int) (a : Option Addr) (m k : Nat) (l : List Nat) (hm : l.length = m) (hml : m ≤ 140737488355328) (hb : BytesAt w a l) (hzn : a = none → k = 0) :
    Calls Try.prog 49 #[.pointer (some ⟨R, 0, none⟩), .int .i64 f, .int .i64 t, .slice a m k] w fun e w' => e = .returned (.int .i64 ((zs.length : Int) + 1)) ∧ ∃ sp' c' hd, RefAt base w' R sp' c' (zs ++ [((((zs.length : Int) + 1, f, t, l), hd), false)]) pa ck ∧ RGrew R w sp w' sp' ∧ ∀ g, blk hd.1 = some g → w.heap.size ≤ g := by
  subst hm
  have c0 := h.c0
  have hwr : IntKind.i64.wrap ((zs.length : Int) + 1) = (zs.length : Int) + 1 := by rw [IntKind.wrap_i64]; omega
  have H := hide h
  have HB := hide hb
  have HZ := hide hzn
  have hbase := hide (Nat.le_trans h.low (Nat.le_of_lt h.ltR))
  obtain ⟨B0, hB0, hbB⟩ : ∃ B0, Hid (B0 = w.heap.size) ∧ Hid (base ≤ B0) := ⟨_, rfl, unhide hbase⟩
  clear h hb hzn
  -- the bytes' room first
  have O1 := hide (OwnB.empty w B0 (Nat.le_of_eq (unhide hB0)))
  have b1 := hide (show Below w.heap.size w (w.alloc (.cells #[] 5)) from (Below.refl _ _).alloc (Nat.le_refl _) _)
  have b1z := hide (show Below (w.alloc (.cells #[] 5)).heap.size (w.alloc (.cells #[] 5)) ((w.alloc (.cells #[] 5)).alloc zPk) from (Below.refl _ _).alloc (Nat.le_refl _) _)
  have b12 := hide (show Below w.heap.size w ((w.alloc (.cells #[] 5)).alloc zPk) from (unhide b1).trans ((unhide b1z).mono (unhide b1).size))
  have O12 := hide ((unhide O1).later (unhide b1z))
  have s1 : (w.alloc (.cells #[] 5)).heap.size = w.heap.size + 1 := size_alloc _ _
  have X12 := hide (show ((w.alloc (.cells #[] 5)).alloc zPk).heap[w.heap.size + 1]? = some zPk from s1 ▸ heap_new _ _)
  -- the packet's room first
  have b2 := hide (show Below w.heap.size w (w.alloc zPk) from (Below.refl _ _).alloc (Nat.le_refl _) _)
  have s2 : (w.alloc zPk).heap.size = w.heap.size + 1 := size_alloc _ _
  have b2e := hide (show Below (w.alloc zPk).heap.size (w.alloc zPk) ((w.alloc zPk).alloc (.cells #[] 5)) from (Below.refl _ _).alloc (Nat.le_refl _) _)
  have b21 := hide (show Below w.heap.size w ((w.alloc zPk).alloc (.cells #[] 5)) from (unhide b2).trans ((unhide b2e).mono (unhide b2).size))
  have O21 := hide (show OwnB B0 ((w.alloc zPk).alloc (.cells #[] 5)) (some ⟨w.heap.size + 1, 0, none⟩) 0 [] from s2 ▸ OwnB.empty (w.alloc zPk) B0 (Nat.le_trans (Nat.le_of_eq (unhide hB0)) (unhide b2).size))
  have X21 := hide (show ((w.alloc zPk).alloc (.cells #[] 5)).heap[w.heap.size]? = some zPk from later_block (unhide b2e) (heap_new _ _))
  have d1 := ((unhide H).later (unhide b1)).c0
  have d12 := ((unhide H).later (unhide b12)).c0
  have d2 := ((unhide H).later (unhide b2)).c0
  have d21 := ((unhide H).later (unhide b21)).c0
  clear s1 s2
  go_enter Try.func49, Try.ntmps49
  go_wp2_with fail
  go_region_law (first
    | (refine step_append8L rfl (.tmp 18) (.tmp 19) rfl B0 (some ⟨w.heap.size, 0, none⟩) 0 0 [] rfl rfl (by exact ⟨(unhide O12).owns, (unhide O12).lt⟩) a l.length k rfl l rfl (by exact ⟨((unhide HB).later (unhide b12)).lt, ((unhide HB).later (unhide b12)).cell⟩) (unhide HZ) (by simp only [List.length_nil]; omega) (by exact Nat.le_trans (Nat.le_of_eq (unhide hB0)) (unhide b12).size) ?_
       intro dp n2 dc V hn2 ho2 hg2 hl2
       have hn3 : n2 = l.length := (unhide hn2).symm
       subst hn3
       have L := hide (Lain.after (P := w.heap.size + 1) (buf := w.heap.size) (dp := dp) (dc := dc) (l := l) (unhide b12) (unhide X12) (by omega) (by omega) (by omega) (show ((w.alloc (.cells #[] 5)).alloc zPk).grownBy V (some w.heap.size) from ⟨hg2.os, hg2.tape, hg2.output, hg2.size, hg2.block⟩) (show OwnB B0 V dp dc l from ho2))
       have v0 := ((unhide H).later (unhide L).bel).c0
       obtain ⟨p0, p1, p2, p3, pf⟩ := (unhide L).cells
       clear hn2 ho2 hg2 hl2)
    | (refine step_append8L rfl (.tmp 18) (.tmp 19) rfl B0 (some ⟨w.heap.size + 1, 0, none⟩) 0 0 [] rfl rfl (by exact ⟨(unhide O21).owns, (unhide O21).lt⟩) a l.length k rfl l rfl (by exact ⟨((unhide HB).later (unhide b21)).lt, ((unhide HB).later (unhide b21)).cell⟩) (unhide HZ) (by simp only [List.length_nil]; omega) (by exact Nat.le_trans (Nat.le_of_eq (unhide hB0)) (unhide b21).size) ?_
       intro dp n2 dc V hn2 ho2 hg2 hl2
       have hn3 : n2 = l.length := (unhide hn2).symm
       subst hn3
       have L := hide (Lain.after (P := w.heap.size) (buf := w.heap.size + 1) (dp := dp) (dc := dc) (l := l) (unhide b21) (unhide X21) (by omega) (by omega) (by omega) (show ((w.alloc zPk).alloc (.cells #[] 5)).grownBy V (some (w.heap.size + 1)) from ⟨hg2.os, hg2.tape, hg2.output, hg2.size, hg2.block⟩) (show OwnB B0 V dp dc l from ho2))
       have v0 := ((unhide H).later (unhide L).bel).c0
       obtain ⟨p0, p1, p2, p3, pf⟩ := (unhide L).cells
       clear hn2 ho2 hg2 hl2)
    | (refine step_append8L rfl (.tmp 18) (.tmp 19) rfl B0 (some ⟨w.heap.size, 0, none⟩) 0 0 [] rfl rfl (by exact ⟨(unhide O1).owns, (unhide O1).lt⟩) a l.length k rfl l rfl (by exact ⟨((unhide HB).later (unhide b1)).lt, ((unhide HB).later (unhide b1)).cell⟩) (unhide HZ) (by simp only [List.length_nil]; omega) (by exact Nat.le_trans (Nat.le_of_eq (unhide hB0)) (unhide b1).size) ?_
       intro dp n2 dc V hn2 ho2 hg2 hl2
       have hn3 : n2 = l.length := (unhide hn2).symm
       subst hn3
       have L := hide (Lain.fresh (dp := dp) (dc := dc) (l := l) (buf := w.heap.size) (unhide b1) (by omega) (show (w.alloc (.cells #[] 5)).grownBy V (some w.heap.size) from ⟨hg2.os, hg2.tape, hg2.output, hg2.size, hg2.block⟩) (show OwnB B0 V dp dc l from ho2))
       have v0 := ((unhide H).later (unhide L).bel).c0
       have bV := hide ((unhide b1).grown (show (w.alloc (.cells #[] 5)).grownBy V (some w.heap.size) from ⟨hg2.os, hg2.tape, hg2.output, hg2.size, hg2.block⟩) (unhide b1).size (fun g hg => by have := Option.some.inj hg; omega))
       have OV := hide (show OwnB B0 V dp dc l from ho2)
       have v0' := ((unhide H).later (unhide bV)).c0
       obtain ⟨p0, p1, p2, p3, pf⟩ := (unhide L).cells
       clear hn2 ho2 hg2 hl2))
  all_goals
    first
      | (have F := hide (Packd.fresh (unhide bV) (unhide OV) ((zs.length : Int) + 1) f t)
         generalize hPE : V.heap.size = P at F ⊢
         generalize V.alloc (.cells #[.int .i64 ((zs.length : Int) + 1), .int .i64 f, .int .i64 t, .slice dp l.length dc] 35) = W5 at F ⊢
         clear hPE v0' bV OV)
      | (have F := hide ((unhide L).pack ((zs.length : Int) + 1) f t)
         first
           | (generalize ((((V.setCell ⟨w.heap.size + 1, 0, none⟩ (.int .i64 ((zs.length : Int) + 1))).setCell ⟨w.heap.size + 1, 1, none⟩ (.int .i64 f)).setCell ⟨w.heap.size + 1, 2, none⟩ (.int .i64 t)).setCell ⟨w.heap.size + 1, 3, none⟩ (.slice dp l.length dc)) = W5 at F ⊢
              replace F : Hid (Packd B0 w W5 (w.heap.size + 1) ((zs.length : Int) + 1) f t dp dc l) := F
              generalize hPE : w.heap.size + 1 = P at F ⊢
              clear hPE)
           | (generalize ((((V.setCell ⟨w.heap.size, 0, none⟩ (.int .i64 ((zs.length : Int) + 1))).setCell ⟨w.heap.size, 1, none⟩ (.int .i64 f)).setCell ⟨w.heap.size, 2, none⟩ (.int .i64 t)).setCell ⟨w.heap.size, 3, none⟩ (.slice dp l.length dc)) = W5 at F ⊢
              replace F : Hid (Packd B0 w W5 (w.heap.size) ((zs.length : Int) + 1) f t dp dc l) := F
              generalize hPE : w.heap.size = P at F ⊢
              clear hPE))
    clear L p0 p1 p2 p3 pf v0 c0 d1 d12 d2 d21 O1 b1 b1z b12 O12 X12 b2 b2e b21 O21 X21
    have H5 := hide ((unhide H).later (unhide F).bel)
    have c5 := (unhide H5).c0
    have q0 := box_cell (unhide F).pk 0 (.int .i64 ((zs.length : Int) + 1)) rfl
    have q1 := box_cell (unhide F).pk 1 (.int .i64 f) rfl
    have q2 := box_cell (unhide F).pk 2 (.int .i64 t) rfl
    have q3 := box_cell (unhide F).pk 3 (.slice dp l.length dc) rfl
    have bA := hide (show Below W5.heap.size W5 (W5.alloc (.cells #[.int .i64 ((zs.length : Int) + 1), .int .i64 f, .int .i64 t, .slice dp l.length dc, .bool false] 77)) from (Below.refl _ _).alloc (Nat.le_refl _) _)
    have XA := hide (heap_new W5 (.cells #[.int .i64 ((zs.length : Int) + 1), .int .i64 f, .int .i64 t, .slice dp l.length dc, .bool false] 77))
    have HA := hide ((unhide H5).later (unhide bA))
    have OA := hide (((unhide F).own.mono (unhide hbB)).later (unhide bA))
    have PA := hide (later_block (unhide bA) (unhide F).pk)
    have a0 := (unhide HA).c0
    have hbA := hide (Nat.le_trans (unhide HA).low (Nat.le_of_lt (unhide HA).ltR))
    go_wp2_with fail
    go_region_law (refine step_appendS rfl (.tmp 26) (.tmp 29) rfl base sp zs.length c zs rfl rfl (by first | exact (unhide HA).own | exact (unhide HA).own.drew) W5.heap.size ((((zs.length : Int) + 1, f, t, l), (dp, dc)), false) rfl (by exact unhide XA) (by first | exact unhide OA | exact ⟨(unhide OA).owns, (unhide OA).lt⟩) (by omega) (by exact unhide hbA) ?_; intro sp6 c6 W6 hO6 hg6 hl6; have O6 := hide hO6; have G6 := hide hg6; have L6 := hide hl6; clear hO6 hg6 hl6; have N6 := hide ((unhide G6).block R (unhide HA).ltR (fun e => (unhide HA).own.ne_block (unhide HA).blk (by decide) e.symm)); have v6 := box_cell ((unhide N6).trans (unhide HA).blk) 0 (.slice sp zs.length c) (by simp); have f6 := box_free ((unhide N6).trans (unhide HA).blk) 0)
    all_goals
      have ltP := (Array.getElem?_eq_some_iff.1 (unhide PA)).1
      have P6 := hide ((unhide G6).block P ltP (fun e => by have := ((unhide H).own.blk_ge P e.symm).2; have := (unhide F).geP; omega))
      have e0 := box_cell (grown_block (grown_set W6 R 0 (.slice sp6 (zs.length + 1) c6)) ((unhide P6).trans (unhide PA)) (fun e => by have := (unhide H).ltR; have := (unhide F).geP; omega)) 0 (.int .i64 ((zs.length : Int) + 1)) rfl
      have H7 := hide ((unhide HA).setRow (unhide N6) (unhide O6))
      rw [show (zs ++ [((((zs.length : Int) + 1, f, t, l), (dp, dc)), false)]).length = zs.length + 1 by simp] at H7
      have G7 := hide ((RGrew.ofBelow (R := R) (sp := sp) ((unhide F).bel.trans ((unhide bA).mono (unhide F).bel.size))).trans (RGrew.ofDrew ((RGrew.ofRow (unhide G6) (unhide L6)).trans (RGrew.ofR (grown_set W6 R 0 (.slice sp6 (zs.length + 1) c6))))))
      clear ltP
      go_wp2
      go_ret
      exact ⟨rfl, sp6, c6, (dp, dc), unhide H7, unhide G7, fun g hg => Nat.le_trans (Nat.le_of_eq (unhide hB0).symm) ((unhide F).own.blk_lt g hg).1⟩
theorem add_calls (h : RefAt base w R sp c zs pa ck) (hz : zs.length ≤ 1000) (f t : Int) (a : Option Addr) (m k : Nat) (l : List Nat) (hm : l.length = m) (hml : m ≤ 140737488355328) (hb : BytesAt w a l) (hzn : a = none → k = 0) :
    Calls Try.prog 49 #[.pointer (some ⟨R, 0, none⟩), .int .i64 f, .int .i64 t, .slice a m k] w fun e w' => e = .returned (.int .i64 ((zs.length : Int) + 1)) ∧ ∃ sp' c' hd, RefAt base w' R sp' c' (zs ++ [((((zs.length : Int) + 1, f, t, l), hd), false)]) pa ck ∧ RGrew R w sp w' sp' :=
  (add_fresh h hz f t a m k l hm hml hb hzn).mono fun _ _ ⟨h1, sp', c', hd, h2, h3, _⟩ => ⟨h1, sp', c', hd, h2, h3⟩
end
end Go.Proofs.Yticemhnfcelpmaa
