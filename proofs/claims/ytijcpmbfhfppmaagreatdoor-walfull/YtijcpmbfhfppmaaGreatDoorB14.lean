/- Logs: contentOf. -/
import Derived.Test.YtijcpmbfhfppmaaGreatDoorB13
import Derived.Test.YtijcpmbfhfppmaaGreatDoorB03
section
namespace Go.Proofs.YtijcpmbfhfppmaaGreatDoor
open Go.ChangeShapes Go.WideShapes Go.ChangeAt Go.RowKit
set_option linter.unusedVariables false

theorem set5 {w : World} {g : Nat} {a b c d e x y z u v : Value} {T : TypeId} (h : w.heap[g]? = some (.cells #[a, b, c, d, e] T (0, 0))) : (((((w.setCell ⟨g, 0, none⟩ x).setCell ⟨g, 1, none⟩ y).setCell ⟨g, 2, none⟩ z).setCell ⟨g, 3, none⟩ u).setCell ⟨g, 4, none⟩ v).heap[g]? = some (.cells #[x, y, z, u, v] T (0, 0)) ∧ w.grownBy (((((w.setCell ⟨g, 0, none⟩ x).setCell ⟨g, 1, none⟩ y).setCell ⟨g, 2, none⟩ z).setCell ⟨g, 3, none⟩ u).setCell ⟨g, 4, none⟩ v) (some g) := by
  have h1 := heap_setCell_same w g 0 #[a, b, c, d, e] T x h
  have h2 := heap_setCell_same _ g 1 _ T y h1
  have h3 := heap_setCell_same _ g 2 _ T z h2
  have h4 := heap_setCell_same _ g 3 _ T u h3
  have h5 := heap_setCell_same _ g 4 _ T v h4
  exact ⟨h5, ((((grown_set w g 0 x).trans (grown_set _ g 1 y)).trans (grown_set _ g 2 z)).trans (grown_set _ g 3 u)).trans (grown_set _ g 4 v)⟩
theorem CtI.resCells {w : World} {n : Nat} {c : Wc} {ep : Option Addr} {ec : Nat} {hs : List (Option Addr × Nat)} {W : World} (h : W.heap[w.heap.size]? = some (.cells #[.int .i64 0, .int .i64 0, .int .i64 0, .int .i64 0, .slice none 0 0] 94 (0, 0))) : (W.cell? ⟨w.heap.size, 0, none⟩ = some (.int .i64 0) ∧ W.cell? ⟨w.heap.size, 1, none⟩ = some (.int .i64 0) ∧ W.cell? ⟨w.heap.size, 2, none⟩ = some (.int .i64 0) ∧ W.cell? ⟨w.heap.size, 3, none⟩ = some (.int .i64 0) ∧ W.cell? ⟨w.heap.size, 4, none⟩ = some (.slice none 0 0)) ∧ (W.frozen? ⟨w.heap.size, 0, none⟩ = false ∧ W.frozen? ⟨w.heap.size, 1, none⟩ = false ∧ W.frozen? ⟨w.heap.size, 2, none⟩ = false ∧ W.frozen? ⟨w.heap.size, 3, none⟩ = false ∧ W.frozen? ⟨w.heap.size, 4, none⟩ = false) :=
  ⟨⟨box_cell h 0 _ rfl, box_cell h 1 _ rfl, box_cell h 2 _ rfl, box_cell h 3 _ rfl, box_cell h 4 _ rfl⟩, froz_of h 0, froz_of h 1, froz_of h 2, froz_of h 3, froz_of h 4⟩
set_option maxRecDepth 20000 in
set_option maxHeartbeats 16000000 in
theorem contentOf_calls (sp : Option Addr) (n k : Nat) (rs : List (List Nat)) (w : World) (hn : rs.length = n) (hm : n ≤ 1000000) (hl : ∀ r ∈ rs, r.length ≤ 140737488355328) (hb : RowsAt w sp rs) :
    Calls Tryz.prog 101 #[.slice sp n k] w (ContEnd w n (contR rs)) := by
  have b1 : Below w.heap.size w (w.alloc (.cells #[.int .i64 0, .int .i64 0, .int .i64 0, .int .i64 0, .slice none 0 0] 94)) := (Below.refl _ _).alloc (Nat.le_refl _) _
  have X1 := heap_new w (.cells #[.int .i64 0, .int .i64 0, .int .i64 0, .int .i64 0, .slice none 0 0] 94)
  have s1 : (w.alloc (.cells #[.int .i64 0, .int .i64 0, .int .i64 0, .int .i64 0, .slice none 0 0] 94)).heap.size = w.heap.size + 1 := by simp
  have b2 : Below (w.alloc (.cells #[.int .i64 0, .int .i64 0, .int .i64 0, .int .i64 0, .slice none 0 0] 94)).heap.size (w.alloc (.cells #[.int .i64 0, .int .i64 0, .int .i64 0, .int .i64 0, .slice none 0 0] 94)) ((w.alloc (.cells #[.int .i64 0, .int .i64 0, .int .i64 0, .int .i64 0, .slice none 0 0] 94)).alloc (.cells #[.int .i64 0, .int .i64 0, .int .i64 0, .int .i64 0, .slice none 0 0] 94)) := (Below.refl _ _).alloc (Nat.le_refl _) _
  have X2 := heap_new (w.alloc (.cells #[.int .i64 0, .int .i64 0, .int .i64 0, .int .i64 0, .slice none 0 0] 94)) (.cells #[.int .i64 0, .int .i64 0, .int .i64 0, .int .i64 0, .slice none 0 0] 94)
  rw [s1] at X2
  have I0 := hide (show CtI w n wc0 none 0 [] ((w.alloc (.cells #[.int .i64 0, .int .i64 0, .int .i64 0, .int .i64 0, .slice none 0 0] 94)).alloc (.cells #[.int .i64 0, .int .i64 0, .int .i64 0, .int .i64 0, .slice none 0 0] 94)) from ⟨later_block b2 X1, ⟨X2⟩, OwnL.ofNil _ _, b1.trans (b2.mono b1.size)⟩)
  have HR := hide hb
  have HN := hide hn
  have HL := hide hl
  clear b1 b2 X1 X2 s1 hb hl
  have FN := hide (show ∀ (W W9 : World), contR rs = none → W.heap[w.heap.size]? = some (.cells #[.int .i64 0, .int .i64 0, .int .i64 0, .int .i64 0, .slice none 0 0] 94 (0, 0)) → Below w.heap.size w W → W.grownBy W9 (some w.heap.size) → ContEnd w n (contR rs) (.returned (.tuple #[.agg #[.int .i64 0, .int .i64 0, .int .i64 0, .int .i64 0, .slice none 0 0], .bool false])) W9 from fun W W9 h _ b g => by
    rw [h]
    exact ⟨b.grown g b.size (fun j e => by have := Option.some.inj e; omega), rfl⟩)
  cases hrs : rs with
  | nil =>
    have hn0 : n = 0 := by rw [← hn, hrs]; rfl
    subst hn0
    have CN := hide (show contR rs = none by rw [hrs]; rfl)
    rw [← hrs]
    have A1 := hide (unhide I0).res
    have FE := hide (unhide FN _ _ (unhide CN) (unhide I0).res (unhide I0).bel (grown_refl _ _))
    obtain ⟨⟨z0, z1, z2, z3, z4⟩, f0, f1, f2, f3, f4⟩ := CtI.resCells (n := 0) (c := wc0) (ep := none) (ec := 0) (hs := []) (unhide I0).res
    clear hrs hn
    go_enter Tryz.func101, Tryz.ntmps101
    go_wp2_with fail
    clear z0 z1 z2 z3 z4 f0 f1 f2 f3 f4
    generalize (w.alloc _).alloc _ = W9 at *
    have g0 := box_cell (unhide A1) 0 _ rfl
    have g1 := box_cell (unhide A1) 1 _ rfl
    have g2 := box_cell (unhide A1) 2 _ rfl
    have g3 := box_cell (unhide A1) 3 _ rfl
    have g4 := box_cell (unhide A1) 4 _ rfl
    refine bodyPost_ret (v := .tuple #[.agg #[.int .i64 0, .int .i64 0, .int .i64 0, .int .i64 0, .slice none 0 0], .bool false]) (by simp [results, Tryz.results101, go_sem, g0, g1, g2, g3, g4]) rfl (unhide FE)
  | cons r0 rest =>
    have hn1 : 1 ≤ n := by rw [← hn, hrs]; simp
    obtain ⟨b0, off0, a0, k0, hsp, q0, y0, lk0, nz0⟩ := (unhide HR).cell 0 (by rw [hrs]; simp)
    have hr0 : rs[0]'(by rw [hrs]; simp) = r0 := by simp [hrs]
    rw [hr0] at q0 y0 lk0
    rw [Nat.add_zero] at q0
    have p0 := cell_later (unhide I0).bel q0
    have IM := hide (isMark_calls a0 r0.length k0 r0 ((w.alloc (.cells #[.int .i64 0, .int .i64 0, .int .i64 0, .int .i64 0, .slice none 0 0] 94)).alloc (.cells #[.int .i64 0, .int .i64 0, .int .i64 0, .int .i64 0, .slice none 0 0] 94)) rfl (unhide HL r0 (by rw [hrs]; simp)) (y0.later (unhide I0).bel))
    have CE := hide (show contR rs = (if isMarkL r0 = true then foldR wc0 rs else none) by rw [hrs]; rfl)
    rw [← hrs]
    have e0 : ((n : Int) == 0) = false := by simp; omega
    have e1 : ¬ (n : Int) = 0 := by omega
    have e2 : (0 : Int) < (n : Int) := by omega
    clear q0 y0 lk0 nz0 hr0 hrs hn hn1
    subst hsp
    cases him : isMarkL r0 with
    | false =>
      rw [him] at IM CE
      have CN := hide (show contR rs = none by rw [unhide CE]; rfl)
      obtain ⟨a1, a2⟩ := set5 (x := .int .i64 0) (y := .int .i64 0) (z := .int .i64 0) (u := .int .i64 0) (v := .slice none 0 0) (unhide I0).res
      have A1 := hide a1
      have FE := hide (unhide FN _ _ (unhide CN) (unhide I0).res (unhide I0).bel a2)
      obtain ⟨⟨z0, z1, z2, z3, z4⟩, f0, f1, f2, f3, f4⟩ := CtI.resCells (n := 0) (c := wc0) (ep := none) (ec := 0) (hs := []) (unhide I0).res
      clear a1 a2 him
      go_enter Tryz.func101, Tryz.ntmps101
      go_wp2_with fail
      clear p0
      generalize (w.alloc _).alloc _ = W2 at *
      go_at_call 133
      refine (unhide IM).mono ?_
      rintro e V1 ⟨rfl, hV⟩
      subst hV
      go_wp2_with fail
      clear z0 z1 z2 z3 z4 f0 f1 f2 f3 f4
      generalize (((((V1.setCell ⟨w.heap.size, 0, none⟩ (.int .i64 0)).setCell ⟨w.heap.size, 1, none⟩ (.int .i64 0)).setCell ⟨w.heap.size, 2, none⟩ (.int .i64 0)).setCell ⟨w.heap.size, 3, none⟩ (.int .i64 0)).setCell ⟨w.heap.size, 4, none⟩ (.slice none 0 0)) = W9 at *
      have g0 := box_cell (unhide A1) 0 _ rfl
      have g1 := box_cell (unhide A1) 1 _ rfl
      have g2 := box_cell (unhide A1) 2 _ rfl
      have g3 := box_cell (unhide A1) 3 _ rfl
      have g4 := box_cell (unhide A1) 4 _ rfl
      refine bodyPost_ret (v := .tuple #[.agg #[.int .i64 0, .int .i64 0, .int .i64 0, .int .i64 0, .slice none 0 0], .bool false]) (by simp [results, Tryz.results101, go_sem, g0, g1, g2, g3, g4]) rfl (unhide FE)
    | true =>
      rw [him] at IM CE
      have CG := hide (show contR rs = foldR wc0 rs by rw [unhide CE]; rfl)
      clear CE
      go_enter Tryz.func101, Tryz.ntmps101
      go_wp2_with fail
      clear p0
      generalize (w.alloc _).alloc _ = W2 at *
      go_at_call 133
      refine (unhide IM).mono ?_
      rintro e V1 ⟨rfl, hV⟩
      subst hV
      go_wp2_with fail
      go_loopw [20] (fun i wr => ∃ (j : Nat) (c : Wc) (ep : Option Addr) (ec : Nat) (hs : List (Option Addr × Nat)), j ≤ n ∧ i = .int .i64 (j : Int) ∧ Hid (foldR wc0 (rs.take j) = some c) ∧ Hid (CtI w n c ep ec hs wr) ∧ Hid (c.bi ≤ 1099511627776 ∧ c.es.length ≤ j)) (fun i _ => n - (intOf i).toNat)
      case atStart => exact ⟨0, wc0, none, 0, [], by omega, rfl, hide rfl, I0, hide ⟨by simp [wc0], by simp [wc0]⟩⟩
      case round =>
        obtain ⟨j, c, ep, ec, hs, hj, rfl, HF, I, HB⟩ := hrel
        by_cases hjn : j < n
        · have y0 : (0 : Int) ≤ (j : Int) := by omega
          have y1 : (j : Int) < (n : Int) := by omega
          have hjl : j < rs.length := by rw [unhide HN]; exact hjn
          obtain ⟨b, off, a, k', hsp, q, yb, lk, nz⟩ := (unhide HR).cell j hjl
          have p1 := cell_later (unhide I).bel q
          have TC := hide (take_calls (unhide I).ct 0 rfl (by decide) (by decide) (unhide I).ow (unhide HB).1 (by have := (unhide HB).2; omega) (unhide I).bel.size a rs[j].length k' rs[j] rfl (unhide HL _ (List.getElem_mem hjl)) lk nz (yb.later (unhide I).bel))
          have hlt8 := yb.lt
          have TS := hide (show rs.take (j + 1) = rs.take j ++ [rs[j]] by rw [List.take_succ_eq_append_getElem hjl])
          have TK := hide (show rs = rs.take j ++ rs[j] :: rs.drop (j + 1) by simp)
          have L8 := hide hlt8
          simp only [Option.some.injEq, Addr.mk.injEq, and_true] at hsp
          obtain ⟨rfl, rfl⟩ := hsp
          clear q yb lk nz hlt8
          generalize rs[j] = r at *
          cases htr : takeR c r with
          | none =>
            rw [htr] at TC
            have CN := hide (show contR rs = none by
              rw [unhide CG, unhide TK, foldR_app, unhide HF]
              dsimp only
              rw [foldR_cons, htr])
            clear htr
            go_wp2_with fail
            clear p1
            go_at_call 134
            refine (unhide TC).mono ?_
            rintro e V2 ⟨gr, he⟩
            dsimp only at he
            subst he
            obtain ⟨hres, hbel⟩ := (unhide I).took gr
            obtain ⟨a1, a2⟩ := set5 (x := .int .i64 0) (y := .int .i64 0) (z := .int .i64 0) (u := .int .i64 0) (v := .slice none 0 0) hres
            have A1 := hide a1
            have FE := hide (unhide FN _ _ (unhide CN) hres hbel a2)
            obtain ⟨⟨z0, z1, z2, z3, z4⟩, f0, f1, f2, f3, f4⟩ := CtI.resCells (n := 0) (c := wc0) (ep := none) (ec := 0) (hs := []) hres
            clear a1 a2 hres hbel gr
            go_wp2_with fail
            clear z0 z1 z2 z3 z4 f0 f1 f2 f3 f4
            generalize (((((V2.setCell ⟨w.heap.size, 0, none⟩ (.int .i64 0)).setCell ⟨w.heap.size, 1, none⟩ (.int .i64 0)).setCell ⟨w.heap.size, 2, none⟩ (.int .i64 0)).setCell ⟨w.heap.size, 3, none⟩ (.int .i64 0)).setCell ⟨w.heap.size, 4, none⟩ (.slice none 0 0)) = W9 at *
            have g0 := box_cell (unhide A1) 0 _ rfl
            have g1 := box_cell (unhide A1) 1 _ rfl
            have g2 := box_cell (unhide A1) 2 _ rfl
            have g3 := box_cell (unhide A1) 3 _ rfl
            have g4 := box_cell (unhide A1) 4 _ rfl
            refine bodyPost_ret (v := .tuple #[.agg #[.int .i64 0, .int .i64 0, .int .i64 0, .int .i64 0, .slice none 0 0], .bool false]) (by simp [results, Tryz.results101, go_sem, g0, g1, g2, g3, g4]) rfl (unhide FE)
          | some c' =>
            rw [htr] at TC
            have HF' := hide (show foldR wc0 (rs.take (j + 1)) = some c' by rw [unhide TS, foldR_snoc _ _ _ c (unhide HF), htr])
            have hbb := takeR_bi htr (unhide L8) (unhide HB).1
            have HB' := hide (show c'.bi ≤ 1099511627776 ∧ c'.es.length ≤ j + 1 from ⟨hbb.1, by have := (unhide HB).2; omega⟩)
            clear htr hbb
            go_wp2_with fail
            clear p1
            go_at_call 134
            refine (unhide TC).mono ?_
            rintro e V2 ⟨gr, he⟩
            dsimp only at he
            obtain ⟨rfl, ep', ec', hs', ct, ol, _⟩ := he
            obtain ⟨hres, hbel⟩ := (unhide I).took gr
            have I' := hide (show CtI w n c' ep' ec' hs' V2 from ⟨hres, ct, ol, hbel⟩)
            clear hres hbel ct ol gr
            go_wp2
            exact ⟨⟨j + 1, c', ep', ec', hs', by omega, by go_num, HF', I', HB'⟩, by simp [intOf]; omega⟩
        · have hjj : ¬ (j : Int) < (n : Int) := by omega
          obtain rfl : j = n := by omega
          have CC := hide (show contR rs = some c by
            rw [unhide CG]
            have h := unhide HF
            rwa [List.take_of_length_le (by rw [unhide HN]; exact Nat.le_refl _)] at h)
          obtain ⟨⟨c0, c1, c2, c3, c4⟩, _⟩ := (unhide I).ct.cells 0 rfl
          obtain ⟨a1, a2⟩ := set5 (x := .int .i64 (c.bi : Int)) (y := .int .i64 (c.bt : Int)) (z := .int .i64 (c.ht : Int)) (u := .int .i64 (c.hv : Int)) (v := .slice ep c.es.length ec) (unhide I).res
          have A1 := hide a1
          have FE := hide (show ContEnd w j (contR rs) (.returned (.tuple #[.agg #[.int .i64 (c.bi : Int), .int .i64 (c.bt : Int), .int .i64 (c.ht : Int), .int .i64 (c.hv : Int), .slice ep c.es.length ec], .bool true])) (((((wr.setCell ⟨w.heap.size, 0, none⟩ (.int .i64 (c.bi : Int))).setCell ⟨w.heap.size, 1, none⟩ (.int .i64 (c.bt : Int))).setCell ⟨w.heap.size, 2, none⟩ (.int .i64 (c.ht : Int))).setCell ⟨w.heap.size, 3, none⟩ (.int .i64 (c.hv : Int))).setCell ⟨w.heap.size, 4, none⟩ (.slice ep c.es.length ec)) from by
            rw [unhide CC]
            refine ⟨(unhide I).bel.grown a2 (unhide I).bel.size (fun j e => by have := Option.some.inj e; omega), ep, ec, hs, rfl, (unhide I).ow.same (fun g hg => a2.block g ((unhide I).ow.foot g hg).2.1 (fun e => ?_)), (unhide HB).1, (unhide HB).2⟩
            have e := Option.some.inj e
            subst e
            obtain ⟨_, _, cur, T, hc, hT⟩ := (unhide I).ow.foot _ hg
            rw [(unhide I).res] at hc
            simp only [Option.some.injEq, Obj.cells.injEq] at hc
            rw [← hc.2.1] at hT
            exact absurd hT (by decide))
          obtain ⟨⟨z0, z1, z2, z3, z4⟩, f0, f1, f2, f3, f4⟩ := CtI.resCells (n := 0) (c := wc0) (ep := none) (ec := 0) (hs := []) (unhide I).res
          clear a1 a2
          go_wp2_with fail
          clear z0 z1 z2 z3 z4 f0 f1 f2 f3 f4 c0 c1 c2 c3 c4
          generalize (((((wr.setCell ⟨w.heap.size, 0, none⟩ (.int .i64 (c.bi : Int))).setCell ⟨w.heap.size, 1, none⟩ (.int .i64 (c.bt : Int))).setCell ⟨w.heap.size, 2, none⟩ (.int .i64 (c.ht : Int))).setCell ⟨w.heap.size, 3, none⟩ (.int .i64 (c.hv : Int))).setCell ⟨w.heap.size, 4, none⟩ (.slice ep c.es.length ec)) = W9 at *
          have g0 := box_cell (unhide A1) 0 _ rfl
          have g1 := box_cell (unhide A1) 1 _ rfl
          have g2 := box_cell (unhide A1) 2 _ rfl
          have g3 := box_cell (unhide A1) 3 _ rfl
          have g4 := box_cell (unhide A1) 4 _ rfl
          refine bodyPost_ret (v := .tuple #[.agg #[.int .i64 (c.bi : Int), .int .i64 (c.bt : Int), .int .i64 (c.ht : Int), .int .i64 (c.hv : Int), .slice ep c.es.length ec], .bool true]) (by simp [results, Tryz.results101, go_sem, g0, g1, g2, g3, g4]) rfl (unhide FE)
end Go.Proofs.YtijcpmbfhfppmaaGreatDoor
end
/- Logs: all records of a content. -/
section
namespace Go.Proofs.YtijcpmbfhfppmaaGreatDoor
open Go.ChangeShapes Go.WideShapes Go.ChangeAt Go.RowKit
set_option linter.unusedVariables false

def EOk (e : EntN) : Prop := EntOk e.1 e.2.1 e.2.2.1 e.2.2.2
def entsB (es : List EntN) : List Nat := es.flatMap fun e => recB 3 (entryB e.1 e.2.1 e.2.2.1 e.2.2.2)
theorem putE_yes {e : EntN} (h : EOk e) : putE (toI e) = .ok (entryB e.1 e.2.1 e.2.2.1 e.2.2.2) := by
  obtain ⟨⟨a1, a2⟩, ⟨b1, b2⟩, ⟨c1, c2⟩, d1, d2⟩ := h
  unfold putE toI
  dsimp only
  rw [if_pos (show MayE (e.1 : Int) (e.2.1 : Int) (e.2.2.1 : Int) e.2.2.2.length from ⟨by omega, by omega, by omega, by
    by_cases hk : e.1 = 1
    · right; rw [d1 hk]; rfl
    · left; omega⟩), if_pos d2]
  simp
theorem recsE_yes : ∀ (es : List EntN), (∀ e ∈ es, EOk e) → recsE (es.map toI) = .ok (entsB es)
  | [], _ => rfl
  | e :: es, h => by
    rw [List.map_cons, recsE_cons, putE_yes (h e (by simp)), recsE_yes es (fun x hx => h x (by simp [hx]))]
    rfl
/-- All records of a content, one behind the other. -/
def allB (c : Wc) : List Nat := markB c.bi c.bt ++ hardB c.ht c.hv ++ entsB c.es
structure WOk (c : Wc) : Prop where
  bi : c.bi ≤ 1099511627776
  bt : c.bt ≤ 1099511627776
  ht : c.ht ≤ 1099511627776
  hv : c.hv ≤ 9
  es : ∀ e ∈ c.es, EOk e
theorem entsB_len : ∀ (es : List EntN), (∀ e ∈ es, EOk e) → (entsB es).length ≤ es.length * 2100
  | [], _ => by simp [entsB]
  | e :: es, h => by
    have ih := entsB_len es (fun x hx => h x (by simp [hx]))
    obtain ⟨_, ⟨_, b2⟩, ⟨_, c2⟩, _, d2⟩ := h e (by simp)
    have h6 := entryB_six e.1 e.2.1 e.2.2.1 e.2.2.2 b2 c2 d2
    unfold entsB at ih ⊢
    rw [List.flatMap_cons, List.length_append, recB_length, List.length_cons]
    omega
theorem markB_len (i t : Nat) (hi : i ≤ 1099511627776) (ht : t ≤ 1099511627776) : (markB i t).length ≤ 21 := by
  unfold markB
  have := numB_six i hi
  have := numB_six t ht
  rw [recB_length, List.length_append]
  omega
theorem hardB_len (t v : Nat) (ht : t ≤ 1099511627776) (hv : v ≤ 9) : (hardB t v).length ≤ 21 := by
  unfold hardB
  have := numB_six t ht
  have := numB_six v (by omega)
  rw [recB_length, List.length_append]
  omega
section
variable {w : World} {B : Nat} {T : TypeId} {p q : List Value} {c : Wc} {ep : Option Addr} {ec : Nat} {base : Nat} {hs : List (Option Addr × Nat)}
set_option maxRecDepth 20000 in
set_option maxHeartbeats 8000000 in
theorem records_calls (h : CtAt w B T p q c ep ec) (o : Nat) (ho : p.length = o) (hE : OwnL base w ep ec c.es hs) (hk : WOk c) (hl : c.es.length ≤ 1000000) :
    Calls Tryz.prog 99 #[.pointer (some ⟨B, o, none⟩)] w fun e w' => ∃ sp n k, e = .returned (.slice sp n k) ∧ Hid ((allB c).length = n) ∧ OwnB w.heap.size w' sp k (allB c) ∧ Below w.heap.size w w' := by
  have HC := hide h
  have HO := hide ho
  have HE := hide hE
  have M1 := hide (fun W => markRecord_calls c.bi c.bt W hk.bi hk.bt)
  have H1 := hide (fun W => hardRecord_yes c.ht c.hv W hk.ht hk.hv)
  have E1 := hide (fun (W : World) (u : Below w.heap.size w W) => entryRecords_calls ep c.es.length ec (c.es.map toI) W (by rw [List.length_map]) (hE.later u).ents hl)
  rw [recsE_yes c.es hk.es] at E1
  have hl1 := markB_len c.bi c.bt hk.bi hk.bt
  have hl2 := hardB_len c.ht c.hv hk.ht hk.hv
  have hl3 := entsB_len c.es hk.es
  have AB := hide (show allB c = markB c.bi c.bt ++ hardB c.ht c.hv ++ entsB c.es from rfl)
  obtain ⟨⟨c0, c1, c2, c3, c4⟩, _⟩ := h.cells o ho
  clear h hE hk ho
  go_enter Tryz.func99, Tryz.ntmps99
  go_wp2_with fail
  go_at_call 131
  refine (unhide M1 _).mono ?_
  rintro e V1 ⟨g1, n1, rfl, hn1, o1, v1⟩
  have O1 := hide o1
  have B1 := hide v1
  have d2 := cell_later v1 c2
  have d3 := cell_later v1 c3
  have d4 := cell_later v1 c4
  clear o1 v1 c0 c1 c2 c3 c4
  go_wp2_with fail
  go_at_call 69
  refine (unhide H1 _).mono ?_
  rintro e V2 ⟨g2, n2, rfl, hn2, o2, v2⟩
  have G1 := hide (show g1 < V2.heap.size from Nat.lt_of_lt_of_le ((unhide O1).blk_lt g1 rfl).2 v2.size)
  have O1 := hide ((unhide O1).later v2)
  have Y2 := hide o2.bytes
  have B2 := hide ((unhide B1).trans (v2.mono (unhide B1).size))
  have e4 := cell_later v2 d4
  clear o2 v2 d2 d3 d4
  go_wp2_with fail
  go_at_call 65
  refine (unhide E1 _ (unhide B2)).mono ?_
  rintro e V3 ⟨v3, sp3, n3, k3, rfl, hn3, o3⟩
  have O1 := hide ((unhide O1).later v3)
  have Y2 := hide ((unhide Y2).later v3)
  have Y3 := hide o3.bytes
  have Z3 := hide (show sp3 = none → k3 = 0 from o3.toBx.nil0)
  have G3 := hide (show ∀ b off, sp3 = some ⟨b, off, none⟩ → b ≠ g1 from fun b off e => by
    have h1 := (o3.blk_lt b (by rw [e]; rfl)).1
    have h2 := unhide G1
    omega)
  have B3 := hide ((unhide B2).trans (v3.mono (unhide B2).size))
  have HS1 := hide (show (markB c.bi c.bt).length + n2 ≤ 140737488355328 by rw [← unhide hn2]; omega)
  have HS2 := hide (show (markB c.bi c.bt ++ hardB c.ht c.hv).length + n3 ≤ 140737488355328 by rw [List.length_append, ← unhide hn3]; omega)
  clear o3 v3 e4
  go_wp2_with (first
    | (have hV : W4 = W4 := rfl
       clear hV
       at_builtin
       refine wpList_append8 rfl (.tmp 31) (.tmp 32) rfl w.heap.size sp4 n4 c4 (markB c.bi c.bt ++ hardB c.ht c.hv) rfl (unhide hn4) (by exact unhide O4) sp3 n3 k3 rfl (entsB c.es) (unhide hn3) (by exact unhide Y4) (unhide Z3) (unhide HS2) (by exact (unhide B4).size) ?_
       intro sp5 n5 c5 W5 hn5 ho5 hg5 hb5
       have O5 := hide ho5
       have B5 := hide ((unhide B4).trans hb5)
       clear ho5 hg5 hb5)
    | (at_builtin
       refine wpList_append8 rfl (.tmp 29) (.tmp 30) rfl w.heap.size (some ⟨g1, 0, none⟩) n1 n1 (markB c.bi c.bt) rfl (unhide hn1) (by exact unhide O1) (some ⟨g2, 0, none⟩) n2 n2 rfl (hardB c.ht c.hv) (unhide hn2) (by exact unhide Y2) (fun h => by cases h) (unhide HS1) (by exact (unhide B3).size) ?_
       intro sp4 n4 c4 W4 hn4 ho4 hg4 hb4
       have O4 := hide ho4
       have B4 := hide ((unhide B3).trans hb4)
       have Y4 := hide (show BytesAt W4 sp3 (entsB c.es) from (unhide Y3).far hg4 (unhide G3))
       clear ho4 hg4 hb4))
  go_ret
  exact ⟨sp5, n5, c5, rfl, by rw [unhide AB]; exact hn5, by rw [unhide AB]; exact unhide O5, unhide B5⟩
end
end Go.Proofs.YtijcpmbfhfppmaaGreatDoor
end
