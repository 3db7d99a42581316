/- Logs: Compact. -/
import Derived.Test.YtijcpmbfhfppmaaGreatDoorWgf
import Derived.Test.YtijcpmbfhfppmaaGreatDoorWgd
namespace Go.Proofs.YtijcpmbfhfppmaaGreatDoor
open Go.ChangeShapes Go.WideShapes Go.ChangeAt Go.RowKit
set_option linter.unusedVariables false

theorem run_slice_lE (b len cap lo : Nat) (h1 : lo ≤ len) (u : World) :
    (Instr.slice 27 (.slice (some ⟨b, 0, none⟩) len cap) (some (.int .i64 (lo : Int))) none none).run Tryz.prog u = .ok (.slice (some ⟨b, if cap = lo then 0 else lo * 4, none⟩) (len - lo) (cap - lo)) u := by
  rw [run_slice_l (w := u) 27 _ len cap elemE .i64 (lo : Int) (by omega) (by omega), sizeOfE]
  simp only [Result.andThen, sliced, Int.toNat_natCast, Option.map_some, Addr.add_lit]
  split <;> simp
/-- Compact: the error, the disk, the content, the file's number. -/
def wCompact (room n : Nat) (c : Wc) (i : Int) (ss : Ds) : Nat × Ds × Wc × Nat :=
  if (termW c i).2 = false then (2, ss, c, n)
  else if i = (c.bi : Int) then (0, ss, c, n)
  else wNew room n c ⟨i.toNat, (termW c i).1.toNat, c.ht, c.hv, c.es.drop (i.toNat - c.bi)⟩ ss
section
variable {Av : Nat → Prop} {base : Nat} {w w' : World} {L d M room N N' : Nat} {ss ss' : Ds} {c : Wc} {n : Nat} {ep : Option Addr} {ec : Nat} {hs : List (Option Addr × Nat)}
theorem OwnL.some_ {es : List EntN} (h : OwnL base w ep ec es hs) (h0 : 0 < es.length) : ∃ b, ep = some ⟨b, 0, none⟩ := by
  rcases h.row.2 with ⟨hv, h1⟩ | ⟨g, cap, cur, hv, _⟩
  · omega
  · simp only [Value.slice.injEq] at hv
    exact ⟨g, hv.1⟩
end
end Go.Proofs.YtijcpmbfhfppmaaGreatDoor
