/- Flight: New, full, has, Len, Parted. -/
import Derived.Test.YticemhnfcelpmaaFl1
namespace Go.Proofs.Yticemhnfcelpmaa
open Go.ChangeShapes Go.WideShapes Go.ChangeAt Go.RowKit Go.Maps

theorem NGrew.refl (N M : Nat) (w : World) (sp : Option Addr) : NGrew N M w sp w sp := ⟨rfl, rfl, rfl, Nat.le_refl _, fun _ _ _ _ _ => rfl, fun _ h => .inl h⟩
theorem NGrew.trans {N M : Nat} {w w1 w2 : World} {s s1 s2 : Option Addr} (h : NGrew N M w s w1 s1) (k : NGrew N M w1 s1 w2 s2) : NGrew N M w s w2 s2 := by
  refine ⟨k.os.trans h.os, k.tape.trans h.tape, k.output.trans h.output, Nat.le_trans h.size k.size, fun i hi h1 h2 h3 => ?_, fun g hg => ?_⟩
  · refine (k.block i (Nat.lt_of_lt_of_le hi h.size) h1 h2 (fun e => ?_)).trans (h.block i hi h1 h2 h3)
    rcases h.lies i e.symm with h4 | h4
    · exact h3 h4.symm
    · omega
  · rcases k.lies g hg with h1 | h1
    · exact h.lies g h1
    · exact .inr (Nat.le_trans h.size h1)
theorem NGrew.ofBelow {N M : Nat} {w w' : World} {sp : Option Addr} (h : Below w.heap.size w w') : NGrew N M w sp w' sp := ⟨h.os, h.tape, h.output, h.size, fun i hi _ _ _ => h.block i hi, fun _ h => .inl h⟩
theorem NGrew.ofN {N M : Nat} {w w' : World} {sp : Option Addr} (h : w.grownBy w' (some N)) : NGrew N M w sp w' sp := ⟨h.os, h.tape, h.output, h.size, fun i hi h1 _ _ => h.block i hi (fun e => h1 (Option.some.inj e)), fun _ h => .inl h⟩
theorem NGrew.ofM {N M : Nat} {w w' : World} {sp : Option Addr} (h : w.grownBy w' (some M)) : NGrew N M w sp w' sp := ⟨h.os, h.tape, h.output, h.size, fun i hi _ h1 _ => h.block i hi (fun e => h1 (Option.some.inj e)), fun _ h => .inl h⟩
theorem NGrew.ofRow {N M : Nat} {w w' : World} {sp sp' : Option Addr} (h : w.grownBy w' (blk sp)) (hl : ∀ g, blk sp' = some g → blk sp = some g ∨ w.heap.size ≤ g) : NGrew N M w sp w' sp' := ⟨h.os, h.tape, h.output, h.size, fun i hi _ _ h1 => h.block i hi h1, hl⟩
theorem NGrew.below {N M base : Nat} {w w' : World} {sp sp' : Option Addr} (h : NGrew N M w sp w' sp') (h1 : base ≤ N) (h2 : base ≤ M) (h3 : ∀ g, blk sp = some g → base ≤ g) (hb : base ≤ w.heap.size) : Below base w w' :=
  ⟨h.os, h.tape, h.output, h.size, fun i hi => h.block i (by omega) (by omega) (by omega) (fun e => by have := h3 i e.symm; omega)⟩
theorem NetAt.below {base : Nat} {w w' : World} {N M n : Nat} {sp sp' : Option Addr} {c : Nat} {xs : List (Pkt × Hdl)} {last : Int} {S : Int → Int → Bool} {ck : List Int} (h : NetAt base w N M n sp c xs last S ck) (hg : NGrew N M w sp w' sp') : Below base w w' :=
  hg.below h.lowN h.lowM (fun g hs => (h.own.blk_ge g hs).1) (Nat.le_trans h.lowN (Nat.le_of_lt h.ltN))
theorem new_calls (w : World) : Calls Try.prog 5 #[] w fun e w' => ∃ N M, e = .returned (.pointer (some ⟨N, 0, none⟩)) ∧ NetAt w.heap.size w' N M 0 none 0 [] 0 (fun _ _ => false) (List.replicate 9 0) ∧ Below w.heap.size w w' := by
  have hmm := @run_makeMap Try.prog
  have b1 : Below w.heap.size w (w.alloc (.map #[] 0)) := (Below.refl _ _).alloc (Nat.le_refl _) _
  have b2 := hide (show Below w.heap.size w ((w.alloc (.map #[] 0)).alloc (.cells #[.slice none 0 0, .int .i64 0, .map (some w.heap.size), .int .i64 0, .int .i64 0, .int .i64 0, .int .i64 0, .int .i64 0, .int .i64 0, .int .i64 0, .int .i64 0, .int .i64 0] 53)) from b1.alloc b1.size _)
  have hN := hide (show ((w.alloc (.map #[] 0)).alloc (.cells #[.slice none 0 0, .int .i64 0, .map (some w.heap.size), .int .i64 0, .int .i64 0, .int .i64 0, .int .i64 0, .int .i64 0, .int .i64 0, .int .i64 0, .int .i64 0, .int .i64 0] 53)).heap[w.heap.size + 1]? = some (.cells #[.slice none 0 0, .int .i64 0, .map (some w.heap.size), .int .i64 0, .int .i64 0, .int .i64 0, .int .i64 0, .int .i64 0, .int .i64 0, .int .i64 0, .int .i64 0, .int .i64 0] 53) by rw [← size_alloc w (.map #[] 0)]; exact heap_new _ _)
  have hM := hide ((World.ownsMap_made (H := Unit) w Try.prog 56 unitElem).alloc (.cells #[.slice none 0 0, .int .i64 0, .map (some w.heap.size), .int .i64 0, .int .i64 0, .int .i64 0, .int .i64 0, .int .i64 0, .int .i64 0, .int .i64 0, .int .i64 0, .int .i64 0] 53))
  clear b1
  go_enter Try.func5, Try.ntmps5
  go_wp2
  go_ret
  exact ⟨w.heap.size + 1, w.heap.size, rfl, ⟨unhide hN, OwnP.ofNil _ _ _, ⟨_, unhide hM, fun f t _ _ => rfl⟩, by omega, Nat.le_refl _, rfl⟩, unhide b2⟩
section
variable {base : Nat} {w : World} {N M n : Nat} {sp : Option Addr} {c : Nat} {xs : List (Pkt × Hdl)} {last : Int} {S : Int → Int → Bool} {ck : List Int}
theorem full_calls (h : NetAt base w N M n sp c xs last S ck) : Calls Try.prog 20 #[.pointer (some ⟨N, 0, none⟩)] w fun e w' => e = .returned (.bool (decide (128 ≤ xs.length))) ∧ w' = w := by
  have c0 := h.c0
  clear h
  go_enter Try.func20, Try.ntmps20
  go_wp2
  go_ret
  exact ⟨by simp; omega, rfl⟩
def hasP (xs : List (Pkt × Hdl)) (i : Int) : Bool := decide (0 ≤ i) && decide (i < xs.length)
theorem has_calls (h : NetAt base w N M n sp c xs last S ck) (i : Int) : Calls Try.prog 23 #[.pointer (some ⟨N, 0, none⟩), .int .i64 i] w fun e w' => e = .returned (.bool (hasP xs i)) ∧ w' = w := by
  have c0 := h.c0
  clear h
  by_cases h0 : 0 ≤ i
  · by_cases h1 : i < xs.length
    · have e : hasP xs i = true := by simp [hasP, h0, h1]
      rw [e]
      go_enter Try.func23, Try.ntmps23
      go_wp2
      go_ret
      exact ⟨by simp, rfl⟩
    · have e : hasP xs i = false := by simp [hasP]; omega
      rw [e]
      go_enter Try.func23, Try.ntmps23
      go_wp2
      go_ret
      exact ⟨by simp, rfl⟩
  · have e : hasP xs i = false := by simp [hasP]; omega
    rw [e]
    go_enter Try.func23, Try.ntmps23
    go_wp2
    go_ret
    exact ⟨rfl, rfl⟩
theorem len_calls (h : NetAt base w N M n sp c xs last S ck) : Calls Try.prog 13 #[.pointer (some ⟨N, 0, none⟩)] w fun e w' => e = .returned (.int .i64 (xs.length : Int)) ∧ w' = w := by
  have c0 := h.c0
  clear h
  go_enter Try.func13, Try.ntmps13
  go_wp2
  go_ret
  exact ⟨rfl, rfl⟩
theorem zeroU (w : World) : (zeroValue 65).run Try.prog w = .ok (.agg #[]) w := by kernel_rfl
theorem parted_calls (h : NetAt base w N M n sp c xs last S ck) (f t : Int) (hf : In64 f) (ht : In64 t) : Calls Try.prog 21 #[.pointer (some ⟨N, 0, none⟩), .int .i64 f, .int .i64 t] w fun e w' => e = .returned (.bool (S f t)) ∧ Below w.heap.size w w' := by
  have c2 := h.c2
  obtain ⟨D, hD, hS⟩ := h.map
  have HD := hide hD
  have HS := hide (hS f t hf ht)
  have HK := hide (keyOf_link hf ht)
  clear h hD hS
  have bA := hide (show Below w.heap.size w (w.alloc (.cells #[] 65)) from (Below.refl _ _).alloc (Nat.le_refl _) _)
  go_enter Try.func21, Try.ntmps21
  go_wp2_with (at_lookup; refine unhide ?_)
  refine hide ?_
  refine wpList_lookup_own_unit _ rfl _ _ 50 rfl 56 65 linkLaw Try.underlying50 (zeroU _) M n D rfl (unhide HD) _ (lk f t) rfl (unhide HK) ?_
  rw [unhide HS]
  go_wp2
  go_ret
  exact ⟨rfl, unhide bA⟩
end
end Go.Proofs.Yticemhnfcelpmaa
