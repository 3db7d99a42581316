/- Flight: bytes.Clone; a net in memory; New, full, has, Len, Parted. -/
import Derived.Test.YticemhnfcelpmaaPk
namespace Go.Proofs.Yticemhnfcelpmaa
open Go.ChangeShapes Go.WideShapes Go.ChangeAt Go.RowKit Go.Maps

theorem eqNil_some (ad : Addr) (n c : Nat) (w : World) : (binOp .eql 28 (.slice (some ad) n c) (.slice none 0 0)).run Try.prog w = .ok (.bool false) w := by kernel_rfl
theorem eqNil_none (n c : Nat) (w : World) : (binOp .eql 28 (.slice none n c) (.slice none 0 0)).run Try.prog w = .ok (.bool true) w := by kernel_rfl
theorem clone_calls (a : Option Addr) (n c : Nat) (l : List Nat) (w : World) (hn : l.length = n) (hl : n ≤ 140737488355328) (hb : BytesAt w a l) (hz : a = none → c = 0) :
    Calls Try.prog 26 #[.slice a n c] w fun e w' => ∃ sp' c', e = .returned (.slice sp' n c') ∧ OwnB w.heap.size w' sp' c' l ∧ Below w.heap.size w w' := by
  cases a with
  | none =>
    obtain rfl : l = [] := by
      cases l with
      | nil => rfl
      | cons x r => obtain ⟨b, off, h, _⟩ := hb.cell 0 (by simp); cases h
    obtain rfl := hz rfl
    obtain rfl : 0 = n := hn
    have hq := eqNil_none 0 0 w
    clear hb hz
    go_enter Try.func26, Try.ntmps26
    go_wp2
    go_ret
    exact ⟨none, 0, rfl, OwnB.ofNil _ _, Below.refl _ _⟩
  | some ad =>
    have O1 := hide (OwnB.empty w w.heap.size (Nat.le_refl _))
    have b1 := hide (show Below w.heap.size w (w.alloc (.cells #[] 5)) from (Below.refl _ _).alloc (Nat.le_refl _) _)
    have HB := hide (hb.later (unhide b1))
    have HN := hide hn
    have hq := eqNil_some ad n c w
    clear hb hz hn
    go_enter Try.func26, Try.ntmps26
    go_wp2_with (at_builtin; refine unhide ?_)
    refine hide ?_
    refine wpList_append8L rfl (.tmp 5) (.tmp 6) rfl w.heap.size (some ⟨w.heap.size, 0, none⟩) 0 0 [] rfl rfl (unhide O1) (some ad) n c rfl l (unhide HN) (unhide HB) (fun h => by cases h) (by simp only [List.length_nil]; omega) (by exact (unhide b1).size) ?_
    intro sp2 n2 c2 W2 hn2 ho2 hg2 hl2
    rw [List.nil_append] at hn2 ho2
    obtain rfl : n = n2 := (unhide HN).symm.trans (unhide hn2)
    have B2 := hide ((unhide b1).grown hg2 (unhide b1).size (fun g hg => by have := Option.some.inj hg; simp only at this; omega))
    have O2 := hide ho2
    clear hg2 hl2 ho2
    go_wp2
    go_ret
    exact ⟨sp2, c2, rfl, unhide O2, unhide B2⟩
/-- A net in memory: its block N, its map's block M. -/
structure NetAt (base : Nat) (w : World) (N M n : Nat) (sp : Option Addr) (c : Nat) (xs : List (Pkt × Hdl)) (last : Int) (S : Int → Int → Bool) (ck : List Int) : Prop where
  blk : w.heap[N]? = some (.cells (.slice sp xs.length c :: .int .i64 last :: .map (some M) :: ck.map (Value.int .i64)).toArray 53 (0, 0))
  own : OwnP base w.heap.size w sp c xs
  map : ∃ D : DataW Unit, w.ownsMap Try.prog 56 unitElem M n D ∧ ∀ f t, In64 f → In64 t → Maps.has D (lk f t) = S f t
  lowN : base ≤ N
  lowM : base ≤ M
  nine : ck.length = 9
theorem NetAt.c0 {base : Nat} {w : World} {N M n : Nat} {sp : Option Addr} {c : Nat} {xs : List (Pkt × Hdl)} {last : Int} {S : Int → Int → Bool} {ck : List Int} (h : NetAt base w N M n sp c xs last S ck) : w.cell? ⟨N, 0, none⟩ = some (.slice sp xs.length c) := box_cell h.blk 0 _ (by simp)
theorem NetAt.c1 {base : Nat} {w : World} {N M n : Nat} {sp : Option Addr} {c : Nat} {xs : List (Pkt × Hdl)} {last : Int} {S : Int → Int → Bool} {ck : List Int} (h : NetAt base w N M n sp c xs last S ck) : w.cell? ⟨N, 1, none⟩ = some (.int .i64 last) := box_cell h.blk 1 _ (by simp)
theorem NetAt.c2 {base : Nat} {w : World} {N M n : Nat} {sp : Option Addr} {c : Nat} {xs : List (Pkt × Hdl)} {last : Int} {S : Int → Int → Bool} {ck : List Int} (h : NetAt base w N M n sp c xs last S ck) : w.cell? ⟨N, 2, none⟩ = some (.map (some M)) := box_cell h.blk 2 _ (by simp)
theorem NetAt.ck {base : Nat} {w : World} {N M n : Nat} {sp : Option Addr} {c : Nat} {xs : List (Pkt × Hdl)} {last : Int} {S : Int → Int → Bool} {ck : List Int} (h : NetAt base w N M n sp c xs last S ck) (k : Nat) (hk : k < 9) : w.cell? ⟨N, 3 + k, none⟩ = some (.int .i64 (ck.getD k 0)) := by
  refine box_cell h.blk (3 + k) _ ?_
  have : k < ck.length := by rw [h.nine]; exact hk
  rw [Nat.add_comm]
  simp [List.getElem?_eq_getElem this]
theorem NetAt.fz {base : Nat} {w : World} {N M n : Nat} {sp : Option Addr} {c : Nat} {xs : List (Pkt × Hdl)} {last : Int} {S : Int → Int → Bool} {ck : List Int} (h : NetAt base w N M n sp c xs last S ck) (k : Nat) : w.frozen? ⟨N, k, none⟩ = false := box_free h.blk k
theorem NetAt.ltN {base : Nat} {w : World} {N M n : Nat} {sp : Option Addr} {c : Nat} {xs : List (Pkt × Hdl)} {last : Int} {S : Int → Int → Bool} {ck : List Int} (h : NetAt base w N M n sp c xs last S ck) : N < w.heap.size := (Array.getElem?_eq_some_iff.1 h.blk).1
theorem NetAt.later {base : Nat} {w w' : World} {N M n : Nat} {sp : Option Addr} {c : Nat} {xs : List (Pkt × Hdl)} {last : Int} {S : Int → Int → Bool} {ck : List Int} (h : NetAt base w N M n sp c xs last S ck) (hb : Below w.heap.size w w') : NetAt base w' N M n sp c xs last S ck := by
  obtain ⟨D, h1, h2⟩ := h.map
  exact ⟨later_block hb h.blk, (h.own.later hb).tight, ⟨D, h1.kept (grown_below none hb) (by simp), h2⟩, h.lowN, h.lowM, h.nine⟩
/-- What a call on a net may change: its block, its map, its row of packets. -/
structure NGrew (N M : Nat) (w : World) (sp : Option Addr) (w' : World) (sp' : Option Addr) : Prop where
  os : w'.os = w.os
  tape : w'.tape = w.tape
  output : w'.output = w.output
  size : w.heap.size ≤ w'.heap.size
  block : ∀ i, i < w.heap.size → i ≠ N → i ≠ M → some i ≠ Go.Proofs.Yticemhnfcelpmaa.blk sp → w'.heap[i]? = w.heap[i]?
  lies : ∀ g, Go.Proofs.Yticemhnfcelpmaa.blk sp' = some g → Go.Proofs.Yticemhnfcelpmaa.blk sp = some g ∨ w.heap.size ≤ g
end Go.Proofs.Yticemhnfcelpmaa
