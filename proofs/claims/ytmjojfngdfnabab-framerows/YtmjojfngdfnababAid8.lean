/- Small aids: a remainder as a number, b[:n]. -/
import Derived.Test.YtmjojfngdfnababLiv
namespace Go.Proofs.Ytmjojfngdfnabab
open Go.ChangeShapes Go.WideShapes Go.ChangeAt Go.RowKit

theorem rem_nat (k : Int) (M : Nat) (h0 : 0 < M) (h1 : M ≤ 4611686018427387904) : ∃ N : Nat, wrap64 ((IntKind.u64.wrap k).tmod (M : Int)) = (N : Int) ∧ N < M := by
  have hw : 0 ≤ IntKind.u64.wrap k := wrap_u64_nonneg k
  obtain ⟨u, hu⟩ := Int.eq_ofNat_of_zero_le hw
  rw [hu]
  refine ⟨u % M, ?_, Nat.mod_lt _ h0⟩
  have e : ((u : Int).tmod (M : Int)) = ((u % M : Nat) : Int) := by rw [← Int.ofNat_tmod]
  have := Nat.mod_lt u h0
  rw [e]
  unfold wrap64
  omega
theorem run_slice_h8 (a : Option Addr) (len cap hi : Nat) (h2 : hi ≤ cap) (u : World) :
    (Instr.slice 22 (.slice a len cap) none (some (.int .i64 (hi : Int))) none).run Try.prog u = .ok (.slice (slp a 0 cap) hi cap) u := by
  rw [run_slice_h (w := u) 22 a len cap elem8 .i64 (hi : Int) (by omega) (by omega), sizeOf8]
  simp [Result.andThen, sliced, slp]
theorem BytesAt.head {w : World} {a : Option Addr} {l : List Nat} (hb : BytesAt w a l) (cap k : Nat) (hc : l.length ≤ cap) : BytesAt w (slp a 0 cap) (l.take k) := by
  have := (hb.drop 0 cap hc).take k
  rwa [List.drop_zero] at this
end Go.Proofs.Ytmjojfngdfnabab
