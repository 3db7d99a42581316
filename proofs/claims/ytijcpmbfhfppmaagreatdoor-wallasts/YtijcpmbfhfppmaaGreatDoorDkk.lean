/- Disk: what must be whatever is asked (live). -/
import Derived.Test.YtijcpmbfhfppmaaGreatDoorDkj
import Derived.Lib.SlBytesConst
namespace Go.Proofs.YtijcpmbfhfppmaaGreatDoor
open Go.ChangeShapes Go.WideShapes Go.ChangeAt Go.RowKit Go.Maps

theorem DGrew.below {base d M room N : Nat} {w w' : World} {fs fs' : List Fe} (h : DiskAt base w d M room N fs) (hbs : base ≤ w.heap.size) (hg : DGrew d M w fs w' fs') : Below base w w' :=
  ⟨hg.os, hg.tape, hg.output, hg.size, fun i hi => hg.block i (by omega) (fun hm => by have := (h.mut_lt hm).1; omega)⟩
theorem lit_bytes (W : World) (l : List Nat) (fr : Nat × Nat) (hl : ∀ c ∈ l, c < 256) : BytesAt (W.alloc (.cells (l.map byteV).toArray 5 fr)) (some ⟨W.heap.size, 0, none⟩) l := by
  refine ⟨hl, fun i hi => ⟨W.heap.size, 0, rfl, ?_⟩⟩
  rw [cell_of_row _ _ _ _ _ _ (heap_new W _), Nat.zero_add]
  simp [hi]
  rfl
theorem lit_ints (W : World) (l : List Int) (hl : ∀ n ∈ l, -9223372036854775808 ≤ n ∧ n ≤ 9223372036854775807) : IntsAt (W.alloc (.cells (l.map (Value.int .i64)).toArray 3)) (some ⟨W.heap.size, 0, none⟩) l := by
  refine ⟨hl, fun i hi => ⟨W.heap.size, 0, rfl, ?_⟩⟩
  rw [cell_of_row _ _ _ _ _ _ (heap_new W _), Nat.zero_add]
  simp [hi]
theorem new_ne {base d M room N : Nat} {W : World} {fs : List Fe} (h : DiskAt base W d M room N fs) (n : Nat) : ∀ b off, some (⟨W.heap.size, 0, none⟩ : Addr) = some ⟨b, off, none⟩ → 0 < n → ¬ DMut d M fs b := by
  intro b off e _ hm
  have h1 := (h.mut_lt hm).2
  simp only [Option.some.injEq, Addr.mk.injEq] at e
  omega
theorem sm {s : ByteArray} (h : s.size ≤ 1000) : s.size ≤ maxLen := by simp only [maxLen]; omega
def L1 : Ds := [([97], ⟨false, [], [(false, 0, [120, 121, 122])]⟩)]
def L2 : Ds := [([97], ⟨true, [120, 121, 122], []⟩)]
def L3 : Ds := [([97], ⟨true, [120, 121, 122], [(false, 1, [112, 113])]⟩)]
def L4 : Ds := [([97], ⟨true, [120, 121, 122], [(false, 1, [112, 113])]⟩), ([98], ⟨false, [], [(false, 0, [120])]⟩)]
def L5 : Ds := [([97], ⟨true, [120, 112, 122], []⟩)]
theorem step1 : dWrite 100 [97] 0 [120, 121, 122] [] = (0, L1) := by rfl
theorem step2 : dSync [97] L1 = (0, L2) := by rfl
theorem step3 : dWrite 100 [97] 1 [112, 113] L2 = (0, L3) := by rfl
theorem step4 : dWrite 100 [98] 0 [120] L3 = (0, L4) := by rfl
theorem step5 : crashS [1] 0 L4 = L5 := by rfl
end Go.Proofs.YtijcpmbfhfppmaaGreatDoor
