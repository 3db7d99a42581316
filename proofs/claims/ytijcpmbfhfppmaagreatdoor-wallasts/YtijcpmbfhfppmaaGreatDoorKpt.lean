/- What a reading behind 'caught' leaves: all blocks but two; a new reader. -/
import Derived.Test.YtijcpmbfhfppmaaGreatDoorRnum
import Derived.Test.YtijcpmbfhfppmaaGreatDoorCgt
import Derived.Test.YtijcpmbfhfppmaaGreatDoorWhard
namespace Go.Proofs.YtijcpmbfhfppmaaGreatDoor
open Go.ChangeShapes Go.WideShapes Go.ChangeAt Go.RowKit

/-- All blocks stay but two. -/
structure Kept (R N : Nat) (w w' : World) : Prop where
  os : w'.os = w.os
  tape : w'.tape = w.tape
  output : w'.output = w.output
  size : w.heap.size ≤ w'.heap.size
  block : ∀ j, j < w.heap.size → j ≠ R → j ≠ N → w'.heap[j]? = w.heap[j]?
theorem Kept.ofGrown {R N : Nat} {w w' : World} (h : w.grownBy w' (some R)) : Kept R N w w' :=
  ⟨h.os, h.tape, h.output, h.size, fun j hj hR _ => h.block j hj (fun e => hR (Option.some.inj e))⟩
theorem Kept.ofGrown' {R N : Nat} {w w' : World} (h : w.grownBy w' (some N)) : Kept R N w w' :=
  ⟨h.os, h.tape, h.output, h.size, fun j hj _ hN => h.block j hj (fun e => hN (Option.some.inj e))⟩
theorem Kept.refl (R N : Nat) (w : World) : Kept R N w w := ⟨rfl, rfl, rfl, Nat.le_refl _, fun _ _ _ _ => rfl⟩
theorem Kept.trans {R N : Nat} {a b c : World} (h : Kept R N a b) (k : Kept R N b c) : Kept R N a c :=
  ⟨k.os.trans h.os, k.tape.trans h.tape, k.output.trans h.output, Nat.le_trans h.size k.size, fun j hj h1 h2 => (k.block j (Nat.lt_of_lt_of_le hj h.size) h1 h2).trans (h.block j hj h1 h2)⟩
theorem Kept.below {R N B : Nat} {w w' : World} (h : Kept R N w w') (hB : B ≤ w.heap.size) (hR : B ≤ R) (hN : B ≤ N) : Below B w w' :=
  ⟨h.os, h.tape, h.output, h.size, fun j hj => h.block j (by omega) (by omega) (by omega)⟩

theorem rd_new {w W : World} {a : Option Addr} {c : Nat} {l : List Nat} {k R : Nat} (hb : BytesAt w a l) (hW : Below w.heap.size w W) (hR : w.heap.size ≤ R) (hblk : W.heap[R]? = some (.cells #[.slice a l.length c, .int .i64 (k : Int)] 242 (0, 0))) (hk : k ≤ l.length) : RdAt R W a c l k :=
  ⟨hblk, hb.later hW, fun b off h0 e => by have := block_lt hb h0 b off e; omega, hk⟩
end Go.Proofs.YtijcpmbfhfppmaaGreatDoor
