/- Heads: texts as bytes in memory, and Parse of them. -/
import Derived.Test.YtcmiappiocfbiaaGreatDoorHde
import Derived.Test.YtcmiappiocfbiaaGreatDoorLzw
namespace Go.Proofs.YtcmiappiocfbiaaGreatDoor
open Go.ChangeShapes Go.WideShapes Go.ChangeAt Go.RowKit Go.Lib
set_option linter.unusedVariables false

def numsB (s : ByteArray) : List Nat := s.data.toList.map UInt8.toNat
theorem numsB_tx (s : ByteArray) : txN (numsB s) = s.data.toList := by
  unfold txN numsB
  rw [List.map_map]
  conv => rhs; rw [← List.map_id s.data.toList]
  exact List.map_congr_left fun x _ => by simp
theorem numsB_len (s : ByteArray) : (numsB s).length = s.size := by unfold numsB; simp
/-- '[]byte(s)'. -/
theorem conv_bytes (w : World) (s : ByteArray) : ∃ c W, (convert 9 29 (.string s)).run Tryz.prog w = .ok (.slice (some ⟨w.heap.size, 0, none⟩) s.size c) W ∧ s.size ≤ c ∧ BytesAt W (some ⟨w.heap.size, 0, none⟩) (numsB s) ∧ Below w.heap.size w W := by
  refine ⟨_, _, run_bytes_of_string w 9 29 5 s Tryz.underlying9 Tryz.underlying29 Tryz.underlying5, grownCap_ge _ _ _ _, ⟨fun c hc => ?_, fun i hi => ⟨w.heap.size, 0, rfl, ?_⟩⟩, ((Below.refl _ _).drew).alloc (Nat.le_refl _) _⟩
  · obtain ⟨x, _, rfl⟩ := List.mem_map.1 hc
    exact x.toNat_lt
  · rw [numsB_len] at hi
    have hr : (w.drew.alloc (.cells (bytesRow s (grownCap w s.size 0 5)) 5 ((bytesRow s (grownCap w s.size 0 5)).size, (bytesRow s (grownCap w s.size 0 5)).size + 1))).heap[w.heap.size]? = some _ := heap_new w.drew _
    rw [cell_of_row _ _ _ _ _ _ hr]
    unfold bytesRow
    rw [Array.getElem?_append_left (by simpa using hi)]
    have h2 : i < s.data.size := hi
    rw [Array.getElem?_map, Nat.zero_add, Array.getElem?_eq_getElem h2]
    simp [numsB]
    rw [Array.getElem?_eq_getElem h2]
    rfl
/-- Parse of a text's bytes. -/
theorem parseB_calls (w W : World) (s : ByteArray) (B c : Nat) (hc : s.size ≤ c) (hb : BytesAt W (some ⟨B, 0, none⟩) (numsB s)) (hL : Lz W) : Calls Tryz.prog 30 #[.slice (some ⟨B, 0, none⟩) s.size c] W fun e w' => ParseRes s.data.toList e w' ∧ Below W.heap.size W w' := by
  have := parse_calls (some ⟨B, 0, none⟩) s.size c (numsB s) W (numsB_len s) hc hb (fun e => by cases e) hL
  rwa [numsB_tx] at this
end Go.Proofs.YtcmiappiocfbiaaGreatDoor
