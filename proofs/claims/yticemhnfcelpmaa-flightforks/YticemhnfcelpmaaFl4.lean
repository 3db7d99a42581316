/- Flight: launch. -/
import Derived.Test.YticemhnfcelpmaaFl3
namespace Go.Proofs.Yticemhnfcelpmaa
open Go.ChangeShapes Go.WideShapes Go.ChangeAt Go.RowKit Go.Maps

section
variable {base : Nat} {w : World} {N M n : Nat} {sp : Option Addr} {c : Nat} {xs : List (Pkt × Hdl)} {last : Int} {S : Int → Int → Bool} {ck : List Int}
set_option maxRecDepth 20000 in
set_option maxHeartbeats 40000000 in
theorem launch_fresh (h : NetAt base w N M n sp c xs last S ck) (f t : Int) (a : Option Addr) (m k : Nat) (l : List Nat) (hm : l.length = m) (hml : m ≤ 140737488355328) (hb : BytesAt w a l) (hbN : ∀ b off, 0 < l.length → a = some ⟨b, off, none⟩ → b ≠ N) (hz : a = none → k = 0) (hl0 : 0 ≤ last) (hl1 : last ≤ 1000000) (hx : xs.length ≤ 1000) :
    Calls Try.prog 22 #[.pointer (some ⟨N, 0, none⟩), .int .i64 f, .int .i64 t, .slice a m k] w fun e w' => e = .returned (.int .i64 (last + 1)) ∧ ∃ sp' c' hd, NetAt base w' N M n sp' c' (xs ++ [((last + 1, f, t, l), hd)]) (last + 1) S ck ∧ NGrew N M w sp w' sp' ∧ ∀ g, blk hd.1 = some g → w.heap.size ≤ g := by
  have c1 := h.c1
  have f1 := h.fz 1
  have h1 := h.setLast (last + 1)
  have G1 := hide (NGrew.ofN (M := M) (sp := sp) (grown_set w N 1 (.int .i64 (last + 1))))
  have H1 := hide h1
  have d0 := h1.c0
  have d1 := h1.c1
  have B1 := hide (hb.grownNe (grown_set w N 1 (.int .i64 (last + 1))) (fun b off h0 e e' => hbN b off h0 e (Option.some.inj e').symm))
  have HM := hide hm
  have HZ := hide hz
  have hNM := hide h.ne
  have LN := hide h.lowN
  have hwr : IntKind.i64.wrap (last + 1) = last + 1 := by rw [IntKind.wrap_i64]; omega
  subst hm
  clear h h1 hb hbN hz HM
  go_enter Try.func22, Try.ntmps22
  go_wp2_with fail
  generalize w.setCell ⟨N, 1, none⟩ (.int .i64 (last + 1)) = W1 at *
  clear c1 f1
  have f0 := (unhide H1).fz 0
  have BN := hide (unhide H1).blk
  have hW1 := hide (Nat.le_trans (unhide LN) (Nat.le_of_lt (unhide H1).ltN))
  clear hNM hwr
  go_region_law (first
    | (have hV' : V = V := rfl; clear hV'; refine step_appendP rfl (.tmp 20) (.tmp 30) rfl base W1.heap.size sp xs.length c xs rfl rfl (by exact unhide Oa) V.heap.size ((last + 1, f, t, l), (dp, dc)) rfl (by exact unhide Xa) (by exact unhide Da) (unhide La) (by exact unhide Sa) (by omega) (by exact Nat.le_trans (unhide hW1) (unhide Sa)) ?_; intro sp4 c4 W4 hO4 hg4 hl4; have O4 := hide hO4; have G4 := hide hg4; have L4 := hide hl4; clear hO4 hg4 hl4; have N4 := hide ((unhide G4).block N (Array.getElem?_eq_some_iff.1 (unhide Na)).1 (fun e => (unhide Oa).ne_block (unhide Na) (by decide) e.symm)); have v0' := box_cell ((unhide N4).trans (unhide Na)) 0 (.slice sp xs.length c) (by simp); have f0' := box_free ((unhide N4).trans (unhide Na)) 0)
    | (go_simp; go_at_call 26; refine (clone_calls a l.length k l _ rfl hml (by exact (unhide B1).drew) (unhide HZ)).mono ?_; rintro e1 V ⟨dp, dc, rfl, hdo, hbV⟩; have bV := hide (show Below W1.heap.size W1 V from ⟨hbV.os, hbV.tape, hbV.output, hbV.size, hbV.block⟩); have bA := hide (show Below V.heap.size V (V.alloc (.cells #[.int .i64 (last + 1), .int .i64 f, .int .i64 t, .slice dp l.length dc] 35)) from (Below.refl _ _).alloc (Nat.le_refl _) _); have Hv := hide ((unhide H1).later (unhide bV)); have Ha := hide ((unhide Hv).later (unhide bA)); have Na := hide (unhide Ha).blk; have v0 := (unhide Hv).c0; have v1 := (unhide Hv).c1; have a0 := (unhide Ha).c0; have a1 := (unhide Ha).c1; have Xa := hide (heap_new V (.cells #[.int .i64 (last + 1), .int .i64 f, .int .i64 t, .slice dp l.length dc] 35)); have Oa := hide (((unhide H1).own.later (unhide bV)).later (unhide bA)); have Da := hide ((hdo.mono (show base ≤ W1.heap.size from unhide hW1)).later (unhide bA)); have La := hide (show ∀ g, blk dp = some g → W1.heap.size ≤ g from fun g hg => (hdo.blk_lt g hg).1); have Sa := hide (show W1.heap.size ≤ (V.alloc (.cells #[.int .i64 (last + 1), .int .i64 f, .int .i64 t, .slice dp l.length dc] 35)).heap.size from Nat.le_trans (unhide bV).size (unhide bA).size); clear hdo hbV))
  all_goals
    have bVA := hide (show Below W1.heap.size W1 (V.alloc (.cells #[.int .i64 (last + 1), .int .i64 f, .int .i64 t, .slice dp l.length dc] 35)) from (unhide bV).trans ((unhide bA).mono (unhide bV).size))
    have G4' := hide ((NGrew.ofBelow (N := N) (M := M) (sp := sp) (unhide bVA)).trans (NGrew.ofRow (unhide G4) (unhide L4)))
    have hN4 := hide (show W4.heap[N]? = W1.heap[N]? from (unhide N4).trans ((unhide bVA).block N (unhide H1).ltN))
    have hM4 := hide (show W4.heap[M]? = W1.heap[M]? from by
      obtain ⟨D, ⟨es, clock, hb, _⟩, _⟩ := ((unhide H1).later (unhide bVA)).map
      have hlt := (Array.getElem?_eq_some_iff.1 hb).1
      obtain ⟨D', ⟨es', clock', hb', _⟩, _⟩ := (unhide H1).map
      exact ((unhide G4).block M hlt (fun e => (unhide Oa).ne_map hb e.symm)).trans ((unhide bVA).block M (Array.getElem?_eq_some_iff.1 hb').1))
    have H5 := hide ((unhide H1).setRow (unhide hN4) (unhide hM4) (unhide O4))
    rw [show (xs ++ [((last + 1, f, t, l), (dp, dc))]).length = xs.length + 1 by simp] at H5
    have G5 := hide ((unhide G1).trans ((unhide G4').trans (NGrew.ofN (grown_set W4 N 0 (.slice sp4 (xs.length + 1) c4)))))
    have e1 := (unhide H5).c1
    go_wp2
    go_ret
    exact ⟨rfl, sp4, c4, (dp, dc), unhide H5, unhide G5, fun g hg => Nat.le_trans (unhide G1).size (unhide La g hg)⟩
theorem launch_calls (h : NetAt base w N M n sp c xs last S ck) (f t : Int) (a : Option Addr) (m k : Nat) (l : List Nat) (hm : l.length = m) (hml : m ≤ 140737488355328) (hb : BytesAt w a l) (hbN : ∀ b off, 0 < l.length → a = some ⟨b, off, none⟩ → b ≠ N) (hz : a = none → k = 0) (hl0 : 0 ≤ last) (hl1 : last ≤ 1000000) (hx : xs.length ≤ 1000) :
    Calls Try.prog 22 #[.pointer (some ⟨N, 0, none⟩), .int .i64 f, .int .i64 t, .slice a m k] w fun e w' => e = .returned (.int .i64 (last + 1)) ∧ ∃ sp' c' hd, NetAt base w' N M n sp' c' (xs ++ [((last + 1, f, t, l), hd)]) (last + 1) S ck ∧ NGrew N M w sp w' sp' :=
  (launch_fresh h f t a m k l hm hml hb hbN hz hl0 hl1 hx).mono fun _ _ ⟨h1, sp', c', hd, h2, h3, _⟩ => ⟨h1, sp', c', hd, h2, h3⟩
end
end Go.Proofs.Yticemhnfcelpmaa
