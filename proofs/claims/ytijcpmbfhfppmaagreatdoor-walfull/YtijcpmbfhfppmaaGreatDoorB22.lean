/- Logs: a log in a file of its own. -/
import Derived.Test.YtijcpmbfhfppmaaGreatDoorB21
namespace Go.Proofs.YtijcpmbfhfppmaaGreatDoor
open Go.ChangeShapes Go.WideShapes Go.ChangeAt Go.RowKit
set_option linter.unusedVariables false

/-- What a log's file is after: written anew, or as it was, without the spare one. -/
def wAnew (room n : Nat) (b : List Nat) (ss : Ds) : Nat × Ds :=
  if (wReplace room n b ss).1 = 0 then wReplace room n b ss else ((wReplace room n b ss).1, (dRemove tmpW (wReplace room n b ss).2).2)
theorem wReplace_num {room n : Nat} {b : List Nat} {ss : Ds} (h : (wReplace room n b ss).1 = 0) : n ≠ 1099511627776 := by
  rintro rfl
  unfold wReplace at h
  split at h
  · exact absurd h (by assumption)
  split at h
  · exact absurd h (by assumption)
  rw [if_pos rfl] at h
  cases h
theorem allB_len {c : Wc} (hk : WOk c) : (allB c).length ≤ 42 + c.es.length * 2100 := by
  have h1 := markB_len c.bi c.bt hk.bi hk.bt
  have h2 := hardB_len c.ht c.hv hk.ht hk.hv
  have h3 := entsB_len c.es hk.es
  unfold allB
  rw [List.length_append, List.length_append]
  omega
theorem set6 {w : World} {g : Nat} {o a b c d e f x y z u v q : Value} {T : TypeId} (h : w.heap[g]? = some (.cells #[o, a, b, c, d, e, f] T (0, 0))) : ((((((w.setCell ⟨g, 1, none⟩ x).setCell ⟨g, 2, none⟩ y).setCell ⟨g, 3, none⟩ z).setCell ⟨g, 4, none⟩ u).setCell ⟨g, 5, none⟩ v).setCell ⟨g, 6, none⟩ q).heap[g]? = some (.cells #[o, x, y, z, u, v, q] T (0, 0)) ∧ w.grownBy ((((((w.setCell ⟨g, 1, none⟩ x).setCell ⟨g, 2, none⟩ y).setCell ⟨g, 3, none⟩ z).setCell ⟨g, 4, none⟩ u).setCell ⟨g, 5, none⟩ v).setCell ⟨g, 6, none⟩ q) (some g) := by
  have h1 := heap_setCell_same w g 1 #[o, a, b, c, d, e, f] T x h
  have h2 := heap_setCell_same _ g 2 _ T y h1
  have h3 := heap_setCell_same _ g 3 _ T z h2
  have h4 := heap_setCell_same _ g 4 _ T u h3
  have h5 := heap_setCell_same _ g 5 _ T v h4
  have h6 := heap_setCell_same _ g 6 _ T q h5
  exact ⟨h6, (((((grown_set w g 1 x).trans (grown_set _ g 2 y)).trans (grown_set _ g 3 z)).trans (grown_set _ g 4 u)).trans (grown_set _ g 5 v)).trans (grown_set _ g 6 q)⟩
section
variable {Av : Nat → Prop} {base : Nat} {w w' : World} {L d M room N N' : Nat} {ss ss' : Ds} {c c2 : Wc} {n : Nat} {ep ep2 : Option Addr} {ec ec2 : Nat} {hs hs2 : List (Option Addr × Nat)}
theorem OwnL.neL (h : OwnL base w ep ec c.es hs) (hL : CtAt w L 96 [.pointer (some ⟨d, 0, none⟩)] [.int .i64 (n : Int)] c2 ep2 ec2) : ¬ LFoot ep hs L := by
  intro hf
  obtain ⟨_, _, cur, T, h1, h2⟩ := h.foot L hf
  rw [hL.row] at h1
  injection Option.some.inj h1 with _ h3
  rcases h2 with h2 | h2 <;> rw [h2] at h3 <;> exact absurd h3 (by decide)
/-- A log's own cells are written. -/
theorem WAt.put (z : WAt Av base w L d M room N ss c n ep ec hs) {n' : Nat} (hL : CtAt w' L 96 [.pointer (some ⟨d, 0, none⟩)] [.int .i64 (n' : Int)] c2 ep2 ec2) (hg : w.grownBy w' (some L)) (ho : OwnL base w ep2 ec2 c2.es hs2) (hf : ∀ g, LFoot ep2 hs2 g → Av g ∨ LFoot ep hs g) (hk : WOk c2) (hn : n' ≤ 1099511627776) (hle : c2.es.length ≤ 1000000) :
    WAt (fun g => Av g ∧ ¬ LFoot ep2 hs2 g) base w' L d M room N ss c2 n' ep2 ec2 hs2 ∧ Asd Av base w w' := by
  have hb : Below base w w' := ⟨hg.os, hg.tape, hg.output, hg.size, fun i hi => hg.block i (Nat.lt_of_lt_of_le hi z.dk.le) (fun e => by have := z.bl; have := Option.some.inj e; omega)⟩
  have hnL := ho.neL z.lg
  refine ⟨⟨(z.dk.aside (fun g hg1 hn => hg.block g hg1 (fun e => hn (.inr (.inl (Option.some.inj e))))) hg.size).av (fun g hg1 => ?_), hL, ho.same (fun g hg1 => hg.block g (ho.foot g hg1).2.1 (fun e => hnL (Option.some.inj e ▸ hg1))), z.bl, fun g hg1 => ⟨(z.av g hg1.1).1, hg1.2⟩, hk, hn, hle, let ⟨w0, h1, h2, h3⟩ := z.tz; ⟨w0, h1, h2, h3.trans hb⟩⟩, fun g hg1 => hg.block g (z.dk.lt (.inl hg1)) (fun e => (z.av g hg1).1 (Option.some.inj e)), hb⟩
  rcases hg1 with h | h | h
  · exact .inl h.1
  · exact .inr (.inl h)
  · rcases hf g h with q | q
    · exact .inl q
    · exact .inr (.inr q)
/-- How it ends. -/
def AnEnd (Av : Nat → Prop) (base L d M room N : Nat) (w : World) (c : Wc) (n : Nat) (ep : Option Addr) (ec : Nat) (hs : List (Option Addr × Nat)) (c2 : Wc) (ep2 : Option Addr) (ec2 : Nat) (hs2 : List (Option Addr × Nat)) (r : Nat × Ds) (e : Ending) (w' : World) : Prop :=
  e = .returned (.int .i64 (r.1 : Int)) ∧ Asd Av base w w' ∧ (r.1 = 0 → n + 1 ≤ 1099511627776 ∧ WAt (fun g => Av g ∧ ¬ LFoot ep2 hs2 g) base w' L d M room N r.2 c2 (n + 1) ep2 ec2 hs2) ∧ (r.1 ≠ 0 → WAt Av base w' L d M room N r.2 c n ep ec hs)
set_option maxRecDepth 20000 in
set_option maxHeartbeats 16000000 in
theorem wanew_calls (z : WAt Av base w L d M room N ss c n ep ec hs) (hN : N + 1 ≤ 1000000) (ho : OwnL base w ep2 ec2 c2.es hs2) (hf : ∀ g, LFoot ep2 hs2 g → Av g ∨ LFoot ep hs g) (hk : WOk c2) (hle : c2.es.length ≤ 1000000) :
    Calls Tryz.prog 63 #[.pointer (some ⟨L, 0, none⟩), .agg #[.int .i64 (c2.bi : Int), .int .i64 (c2.bt : Int), .int .i64 (c2.ht : Int), .int .i64 (c2.hv : Int), .slice ep2 c2.es.length ec2]] w (AnEnd Av base L d M room (N + 1) w c n ep ec hs c2 ep2 ec2 hs2 (wAnew room n (allB c2) ss)) := by
  have WA := hide (show wAnew room n (allB c2) ss = (if (wReplace room n (allB c2) ss).1 = 0 then wReplace room n (allB c2) ss else ((wReplace room n (allB c2) ss).1, (dRemove tmpW (wReplace room n (allB c2) ss).2).2)) from rfl)
  have WN := hide (fun h => wReplace_num (room := room) (n := n) (b := allB c2) (ss := ss) h)
  have b1 : Below w.heap.size w (w.alloc (.cells #[.int .i64 (c2.bi : Int), .int .i64 (c2.bt : Int), .int .i64 (c2.ht : Int), .int .i64 (c2.hv : Int), .slice ep2 c2.es.length ec2] 94)) := (Below.refl _ _).alloc (Nat.le_refl _) _
  have X1 := hide (heap_new w (.cells #[.int .i64 (c2.bi : Int), .int .i64 (c2.bt : Int), .int .i64 (c2.ht : Int), .int .i64 (c2.hv : Int), .slice ep2 c2.es.length ec2] 94))
  have RC := hide (records_calls (w := w.alloc (.cells #[.int .i64 (c2.bi : Int), .int .i64 (c2.bt : Int), .int .i64 (c2.ht : Int), .int .i64 (c2.hv : Int), .slice ep2 c2.es.length ec2] 94)) (p := []) (q := []) ⟨unhide X1⟩ 0 rfl (ho.later b1) hk hle)
  have RB := hide (allB_len hk)
  have HF := hide hf
  have HO := hide ho
  have Z := hide z
  have B1 := hide b1
  have KL := hide (show WOk c2 ∧ c2.es.length ≤ 1000000 from ⟨hk, hle⟩)
  generalize wAnew room n (allB c2) ss = wa at *
  clear z hf ho b1 hk
  go_enter Tryz.func63, Tryz.ntmps63
  go_wp2_with fail
  have BE := hide (show ∀ W : World, W.heap.size = W.heap.size from fun _ => rfl)
  generalize w.alloc _ = w1 at *
  go_at_call 99
  refine (unhide RC).mono ?_
  rintro e V1 ⟨sp, m, k, rfl, hm, o1, v1⟩
  have U1 := hide ((unhide B1).trans (v1.mono (unhide B1).size))
  have X2 := hide (later_block v1 (unhide X1))
  have PC := hide (replace_calls ((unhide Z).more (unhide U1)) hN sp m k (allB c2) (unhide hm) (by rw [← unhide hm]; exact o1.cap.1) o1.bytes o1.toBx.nil0 (fun g off e h0 => .inr (.inr ⟨by
    have h1 := (o1.blk_lt g (by rw [e]; rfl)).1
    have h2 := (unhide B1).size
    omega, (o1.blk_lt g (by rw [e]; rfl)).2⟩)) (by have := unhide RB; have := unhide hm; omega))
  clear o1 v1 RC X1
  have hw1 := (unhide Z).ltL
  generalize wReplace room n (allB c2) ss = wr at *
  obtain ⟨e1, s1⟩ := wr
  go_wp2_with fail
  go_at_call 98
  refine (unhide PC).mono ?_
  rintro e V2 ⟨rfl, z2, a2⟩
  have X3 := hide ((a2.av w.heap.size (.inl (.inr ⟨Nat.le_refl _, (Array.getElem?_eq_some_iff.1 (unhide X2)).1⟩))).trans (unhide X2))
  have A2 := hide (((unhide Z).asdB (unhide U1)).trans (a2.sub (fun g hg => hg.imp .inl id)))
  have O2 := hide (((unhide HO).later (unhide U1)).same (w' := V2) (fun g hg => by
    rcases unhide HF g hg with q | q
    · exact a2.av g (.inl (.inl q))
    · exact a2.av g (.inr (.inr q))))
  have Z2 := hide z2
  clear z2 a2 PC
  dsimp only
  by_cases h1 : e1 = 0
  · subst h1
    have WE := hide (show wa = (0, s1) from (unhide WA).trans (if_pos rfl))
    have hn1 : n ≠ 1099511627776 := unhide WN rfl
    have hn2 := (unhide Z2).nn
    have hwr : IntKind.i64.wrap ((n : Int) + 1) = ((n + 1 : Nat) : Int) := by
      rw [IntKind.wrap_i64]
      omega
    obtain ⟨c0, c6, f6⟩ := (unhide Z2).ptr
    have R2 := hide (unhide Z2).lg.row
    obtain ⟨l1, l2⟩ := set6 (x := .int .i64 (c2.bi : Int)) (y := .int .i64 (c2.bt : Int)) (z := .int .i64 (c2.ht : Int)) (u := .int .i64 (c2.hv : Int)) (v := .slice ep2 c2.es.length ec2) (q := .int .i64 ((n + 1 : Nat) : Int)) (unhide R2)
    obtain ⟨p1, p2⟩ := (unhide Z2).put (c2 := c2) (n' := n + 1) (hs2 := hs2) ⟨l1⟩ l2 (unhide O2) (fun g hg => (unhide HF g hg).imp .inl id) (unhide KL).1 (by omega) (unhide KL).2
    have FE := hide (show AnEnd Av base L d M room (N + 1) w c n ep ec hs c2 ep2 ec2 hs2 wa (.returned (.int .i64 0)) (((((((V2.setCell ⟨L, 1, none⟩ (.int .i64 (c2.bi : Int))).setCell ⟨L, 2, none⟩ (.int .i64 (c2.bt : Int))).setCell ⟨L, 3, none⟩ (.int .i64 (c2.ht : Int))).setCell ⟨L, 4, none⟩ (.int .i64 (c2.hv : Int))).setCell ⟨L, 5, none⟩ (.slice ep2 c2.es.length ec2)).setCell ⟨L, 6, none⟩ (.int .i64 ((n + 1 : Nat) : Int)))) by
      rw [unhide WE]
      refine ⟨rfl, ((unhide A2).sub (fun g hg => .inl hg)).trans (p2.sub (fun g hg => .inl hg)), fun _ => ⟨by omega, p1.sub (fun g hg => ⟨.inl hg.1, hg.2⟩)⟩, fun h => absurd rfl h⟩)
    have x0 := box_cell (unhide X3) 0 _ rfl
    have x1 := box_cell (unhide X3) 1 _ rfl
    have x2 := box_cell (unhide X3) 2 _ rfl
    have x3 := box_cell (unhide X3) 3 _ rfl
    have x4 := box_cell (unhide X3) 4 _ rfl
    have m1 := box_cell (unhide R2) 1 _ rfl
    have m2 := box_cell (unhide R2) 2 _ rfl
    have m3 := box_cell (unhide R2) 3 _ rfl
    have m4 := box_cell (unhide R2) 4 _ rfl
    have m5 := box_cell (unhide R2) 5 _ rfl
    have f1 := froz_of (unhide R2) 1
    have f2 := froz_of (unhide R2) 2
    have f3 := froz_of (unhide R2) 3
    have f4 := froz_of (unhide R2) 4
    have f5 := froz_of (unhide R2) 5
    clear p1 p2 l1 l2 hn1 hn2
    generalize ((n + 1 : Nat) : Int) = n1 at *
    generalize c2.es.length = k2 at *
    generalize c2.bi = q1 at *
    generalize c2.bt = q2 at *
    generalize c2.ht = q3 at *
    generalize c2.hv = q4 at *
    go_wp2
    go_ret
    exact unhide FE
  · have h1' : ((e1 : Int) == 0) = false := by simp; omega
    have h1'' : ¬ (e1 : Int) = 0 := by omega
    have DC := hide (aremove_calls (unhide Z2).dk ⟨#[119, 97, 108, 46, 116, 109, 112]⟩ tmp_size)
    rw [show (⟨#[119, 97, 108, 46, 116, 109, 112]⟩ : ByteArray).data.toList = tmpW from rfl] at DC
    have WE := hide (show wa = (e1, (dRemove tmpW s1).2) from (unhide WA).trans (if_neg h1))
    generalize dRemove tmpW s1 = r3 at *
    obtain ⟨e3, s3⟩ := r3
    try dsimp only at WE DC
    have c0 := (unhide Z2).ptr.1
    go_wp2_with fail
    clear c0
    go_at_call 97
    refine (unhide DC).mono ?_
    rintro e V3 ⟨rfl, dk3, as3⟩
    have FE := hide (show AnEnd Av base L d M room (N + 1) w c n ep ec hs c2 ep2 ec2 hs2 wa (.returned (.int .i64 (e1 : Int))) V3 by
      rw [unhide WE]
      exact ⟨rfl, ((unhide A2).trans (as3.sub (fun g hg => hg.imp .inl id))).sub (fun g hg => .inl hg), fun h => absurd h h1, fun _ => ((unhide Z2).disk dk3 as3).sub (fun g hg => .inl hg)⟩)
    clear dk3 as3 DC
    go_wp2
    go_ret
    exact unhide FE
end
end Go.Proofs.YtijcpmbfhfppmaaGreatDoor
