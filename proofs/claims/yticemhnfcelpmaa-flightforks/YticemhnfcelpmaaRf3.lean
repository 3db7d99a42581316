/- Flight, the document's answer: place; what a store leaves; Take. -/
import Derived.Test.YticemhnfcelpmaaRf2
import Derived.Test.YticemhnfcelpmaaFl14
namespace Go.Proofs.Yticemhnfcelpmaa
open Go.ChangeShapes Go.WideShapes Go.ChangeAt Go.RowKit

section
variable {base : Nat} {w : World} {R : Nat} {sp : Option Addr} {c : Nat} {zs : List SPk} {pa : List Bool} {ck : List Int}
/-- What a call on the document's net may change. -/
structure RGrew (R : Nat) (w : World) (sp : Option Addr) (w' : World) (sp' : Option Addr) : Prop where
  os : w'.os = w.os
  tape : w'.tape = w.tape
  output : w'.output = w.output
  size : w.heap.size ≤ w'.heap.size
  block : ∀ i, i < w.heap.size → i ≠ R → some i ≠ Go.Proofs.Yticemhnfcelpmaa.blk sp → w'.heap[i]? = w.heap[i]?
  lies : ∀ g, Go.Proofs.Yticemhnfcelpmaa.blk sp' = some g → Go.Proofs.Yticemhnfcelpmaa.blk sp = some g ∨ w.heap.size ≤ g
theorem RGrew.refl (R : Nat) (w : World) (sp : Option Addr) : RGrew R w sp w sp := ⟨rfl, rfl, rfl, Nat.le_refl _, fun _ _ _ _ => rfl, fun _ h => .inl h⟩
theorem RGrew.trans {w1 w2 : World} {s s1 s2 : Option Addr} (h : RGrew R w s w1 s1) (k : RGrew R w1 s1 w2 s2) : RGrew R w s w2 s2 := by
  refine ⟨k.os.trans h.os, k.tape.trans h.tape, k.output.trans h.output, Nat.le_trans h.size k.size, fun i hi h1 h3 => ?_, fun g hg => ?_⟩
  · refine (k.block i (Nat.lt_of_lt_of_le hi h.size) h1 (fun e => ?_)).trans (h.block i hi h1 h3)
    rcases h.lies i e.symm with h4 | h4
    · exact h3 h4.symm
    · omega
  · rcases k.lies g hg with h1 | h1
    · exact h.lies g h1
    · exact .inr (Nat.le_trans h.size h1)
theorem RGrew.ofBelow {w' : World} (h : Below w.heap.size w w') : RGrew R w sp w' sp := ⟨h.os, h.tape, h.output, h.size, fun i hi _ _ => h.block i hi, fun _ h => .inl h⟩
theorem RGrew.ofR {w' : World} (h : w.grownBy w' (some R)) : RGrew R w sp w' sp := ⟨h.os, h.tape, h.output, h.size, fun i hi h1 _ => h.block i hi (fun e => h1 (Option.some.inj e)), fun _ h => .inl h⟩
theorem RGrew.ofRow {w' : World} {sp' : Option Addr} (h : w.grownBy w' (Go.Proofs.Yticemhnfcelpmaa.blk sp)) (hl : ∀ g, Go.Proofs.Yticemhnfcelpmaa.blk sp' = some g → Go.Proofs.Yticemhnfcelpmaa.blk sp = some g ∨ w.heap.size ≤ g) : RGrew R w sp w' sp' := ⟨h.os, h.tape, h.output, h.size, fun i hi _ h1 => h.block i hi h1, hl⟩
theorem RefAt.below {w' : World} {sp' : Option Addr} (h : RefAt base w R sp c zs pa ck) (hg : RGrew R w sp w' sp') : Below base w w' :=
  ⟨hg.os, hg.tape, hg.output, hg.size, fun i hi => hg.block i (Nat.lt_of_lt_of_le hi (Nat.le_trans h.low (Nat.le_of_lt h.ltR))) (by have := h.low; omega) (fun e => by have := (h.own.blk_ge i e.symm).1; omega)⟩
/-- A packet is gone: one cell of its row. -/
theorem RefAt.gone (h : RefAt base w R sp c zs pa ck) (j : Nat) (hj : j < zs.length) (g : Nat) (hg : sp = some ⟨g, 0, none⟩) : RefAt base (w.setCell ⟨g, j * 5 + 4, none⟩ (.bool true)) R sp c (zs.set j (zs[j].1, true)) pa ck ∧ RGrew R w sp (w.setCell ⟨g, j * 5 + 4, none⟩ (.bool true)) sp := by
  subst hg
  have hgs := grown_set w g (j * 5 + 4) (.bool true)
  have hlen : (zs.set j (zs[j].1, true)).length = zs.length := List.length_set
  obtain ⟨g1, cap, cur, hv, hbg, hh, hle, hmx, hsz, htk⟩ := h.own.row.2.resolve_left (fun e => by have := e.2; omega)
  simp only [Value.slice.injEq, Option.some.injEq, Addr.mk.injEq, and_true] at hv
  obtain ⟨rfl, _, rfl⟩ := hv
  obtain ⟨cl⟩ := cur
  have hsz1 : cl.length = c * 5 := hsz
  have htk1 : cl.take (zs.length * 5) = rowsS zs := htk
  have hneR : R ≠ g := fun e => by
    rw [← e, h.blk] at hh
    simp at hh
  refine ⟨⟨?_, ⟨⟨by rw [rowsS_length], .inr ⟨g, c, (cl.set (j * 5 + 4) (.bool true)).toArray, by rw [hlen], hbg, row_set hh _ _, by rw [hlen]; exact hle, hmx, by simpa using hsz, ?_⟩⟩, ?_⟩, h.low, h.hundred, h.ten⟩, RGrew.ofRow hgs (fun g' h' => .inl h')⟩
  · rw [hlen]
    exact grown_block hgs h.blk hneR
  · apply List.ext_getElem?
    intro k
    rw [hlen]
    by_cases hk : k < zs.length * 5
    · rw [List.toList_toArray, List.getElem?_take, if_pos hk]
      have h2 := rowsS_get (zs.set j (zs[j].1, true)) (k / 5) (k % 5) (by rw [hlen]; omega) (Nat.mod_lt _ (by decide))
      rw [show k / 5 * 5 + k % 5 = k by omega] at h2
      rw [h2]
      have h1 := rowsS_get zs (k / 5) (k % 5) (by omega) (Nat.mod_lt _ (by decide))
      rw [show k / 5 * 5 + k % 5 = k by omega, ← htk1, List.getElem?_take, if_pos hk] at h1
      by_cases e : k = j * 5 + 4
      · have e1 : k / 5 = j := by omega
        have e2 : k % 5 = 4 := by omega
        have e3 : (zs.set j (zs[j].1, true))[k / 5]'(by rw [hlen]; omega) = (zs[j].1, true) := by simp [e1]
        rw [e3, e2, show (cl.set (j * 5 + 4) (Value.bool true))[k]? = some (Value.bool true) by rw [e, List.getElem?_set_self (by omega)]]
        rfl
      · rw [List.getElem?_set_ne (by omega), h1]
        by_cases e1 : k / 5 = j
        · have e3 : (zs.set j (zs[j].1, true))[k / 5]'(by rw [hlen]; omega) = (zs[j].1, true) := by simp [e1]
          rw [e3]
          have e4 : zs[k / 5]'(by omega) = zs[j] := by simp [e1]
          rw [e4]
          have hm4 : k % 5 < 4 := by omega
          generalize k % 5 = r at *
          match r, hm4 with
          | 0, _ => rfl
          | 1, _ => rfl
          | 2, _ => rfl
          | 3, _ => rfl
        · have e3 : (zs.set j (zs[j].1, true))[k / 5]'(by rw [hlen]; omega) = zs[k / 5]'(by omega) := by
            rw [List.getElem_set_ne (fun e' => e1 e'.symm)]
          rw [e3]
    · rw [List.getElem?_eq_none (by rw [List.length_take]; omega), List.getElem?_eq_none (by rw [rowsS_length, hlen]; omega)]
  · intro z hz
    have hz' : OwnB 0 w z.1.2.1 z.1.2.2 z.1.1.2.2.2 := by
      rcases List.mem_or_eq_of_mem_set hz with h1 | h1
      · exact h.own.dat z h1
      · subst h1; exact h.own.dat zs[j] (List.getElem_mem hj)
    exact hz'.grownNe hgs (fun g' hs e => hz'.ne_block hh (by decide) (by rw [hs, Option.some.inj e]))
set_option maxRecDepth 20000 in
set_option maxHeartbeats 2000000 in
theorem place_calls (h : RefAt base w R sp c zs pa ck) (hz : zs.length ≤ 1000) (i : Int) : Calls Try.prog 50 #[.pointer (some ⟨R, 0, none⟩), .int .i64 i] w fun e w' => w' = w ∧ ((∃ j : Nat, ∃ hj : j < zs.length, e = .returned (.int .i64 (j : Int)) ∧ zs[j].2 = false ∧ ((alive (zs.take j)).length : Int) = i) ∨ (e = .returned (.int .i64 (-1)) ∧ hasP (alive zs) i = false)) := by
  have c0 := h.c0
  have H := hide h
  clear h
  go_enter Try.func50, Try.ntmps50
  go_wp2_with fail
  go_loopw [5, 6] (fun vk vj wr => ∃ (j m : Nat), j ≤ zs.length ∧ vk = .int .i64 (m : Int) ∧ vj = .int .i64 (j : Int) ∧ wr = w ∧ Hid ((alive (zs.take j)).length = m) ∧ Hid (¬ (0 ≤ i ∧ i < (m : Int)))) (fun _ vj _ => zs.length - (intOf vj).toNat)
  case atStart => exact ⟨0, 0, by omega, rfl, rfl, rfl, rfl, fun h => by have := h.1; have := h.2; omega⟩
  case round =>
    obtain ⟨j, m, hj, rfl, rfl, rfl, hm, hno⟩ := hrel
    have hml : m ≤ 1000 := by have := alive_len (zs.take j); rw [unhide hm, List.length_take] at this; omega
    by_cases hjn : j < zs.length
    · obtain ⟨g, rfl, p0, p1, p2, p3, p4⟩ := (unhide H).own.cell j hjn
      have hj0 : (0 : Int) ≤ (j : Int) := by omega
      have hj1 : (j : Int) < (zs.length : Int) := by omega
      have htk := hide (alive_take j hjn)
      cases hgz : zs[j].2
      · rw [hgz] at p4
        by_cases hmi : (m : Int) = i
        · have HG := hide hgz
          subst hmi
          go_wp2
          go_ret
          exact ⟨rfl, .inl ⟨j, hjn, rfl, unhide HG, by rw [unhide hm]⟩⟩
        · have M5 := hide (show (alive (zs.take (j + 1))).length = m + 1 by rw [unhide htk, hgz, List.length_append, unhide hm]; rfl)
          have N5 := hide (show ¬ (0 ≤ i ∧ i < ((m + 1 : Nat) : Int)) from fun h => unhide hno ⟨h.1, by have := h.2; omega⟩)
          clear hgz p0 p1 p2 p3
          go_wp2
          exact ⟨⟨j + 1, m + 1, by omega, by go_num, by go_num, by first | rfl | trivial, unhide M5, unhide N5⟩, by simp [intOf]; omega⟩
      · rw [hgz] at p4
        have M5 := hide (show (alive (zs.take (j + 1))).length = m by rw [unhide htk, hgz]; simpa using unhide hm)
        clear hgz p0 p1 p2 p3
        go_wp2
        exact ⟨⟨j + 1, m, by omega, rfl, by go_num, by first | rfl | trivial, unhide M5, unhide hno⟩, by simp [intOf]; omega⟩
    · obtain rfl : j = zs.length := by omega
      rw [List.take_length] at hm
      have hh := hide (show hasP (alive zs) i = false by
        simp only [hasP, Bool.and_eq_false_iff, decide_eq_false_iff_not]
        rw [unhide hm]
        have := unhide hno
        omega)
      go_wp2
      go_ret
      exact ⟨rfl, .inr ⟨rfl, unhide hh⟩⟩
end
end Go.Proofs.Yticemhnfcelpmaa
