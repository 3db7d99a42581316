/- The document's answers of layer 2: add; a new scan; its end. -/
import Derived.Test.YtcficfjgddjeeabRsc
namespace Go.Proofs.Ytcficfjgddjeeab
open Go.ChangeShapes Go.WideShapes Go.ChangeAt Go.RowKit

theorem sc_new {w W : World} {a : Option Addr} {c : Nat} {l : List Nat} {S : Nat} (hb : BytesAt w a l) (hW : Below w.heap.size w W) (hS : w.heap.size ≤ S) (hblk : W.heap[S]? = some (.cells #[.slice a l.length c, .int .i64 0, .int .i64 0] 64 (0, 0))) : ScAt S W a c l 0 0 :=
  ⟨hblk, hb.later hW, fun b off h0 e => by have := block_lt hb h0 b off e; omega, Nat.zero_le _⟩
theorem endS_bad {l : List Nat} {k x : Nat} (hx : x ≠ 0) : endS l k x = x := by rw [endS, if_neg (fun h => hx h.1)]
theorem endS_more {l : List Nat} {k : Nat} (h : k < l.length) : endS l k 0 = 4 := by rw [endS, if_pos ⟨rfl, h⟩]
theorem endS_ok {l : List Nat} {k : Nat} (h : ¬ k < l.length) : endS l k 0 = 0 := by rw [endS, if_neg (fun h' => h h'.2)]
theorem refAdd_calls (base : Nat) (sp : Option Addr) (n0 c : Nat) (l : List Nat) (n : Nat) (w : World) (hn0 : l.length = n0) (hown : OwnB base w sp c l) (hl : l.length ≤ 1099511627776) (hn : n ≤ 1099511627776) (hbase : base ≤ w.heap.size) :
    Calls Try.prog 26 #[.slice sp n0 c, .int .i64 (n : Int)] w fun e w' => ∃ sp' n' c', e = .returned (.slice sp' n' c') ∧ Hid ((l ++ numB n).length = n') ∧ OwnB base w' sp' c' (l ++ numB n) ∧ Grew w sp w' sp' := by
  have HO := hide hown
  have HN := hide hn0
  have Hb := hide hbase
  have H6 := hide (numB_short n hn)
  clear hown hn0 hbase
  go_enter Try.func26, Try.ntmps26
  go_wp2_with fail
  refine (refNumber_yes n _ hn).mono ?_
  rintro e W1 ⟨sp1, n1, c1, rfl, hn1, ho1, hb1⟩
  have B1 := hide ho1.bytes
  have O1 := hide ((unhide HO).later hb1)
  have F1 := hide hb1
  have Z1 := hide (show sp1 = none → c1 = 0 by
    intro e
    subst e
    rcases ho1.owns.2 with ⟨hv, _⟩ | ⟨g, cap, cur, hv, _⟩
    · simp only [Value.slice.injEq] at hv; exact hv.2.2
    · cases hv)
  clear ho1 hb1
  go_wp2_with (at_builtin; refine wpList_append8L rfl (.tmp 12) (.tmp 13) rfl base sp n0 c l rfl (unhide HN) (by exact unhide O1) sp1 n1 c1 rfl (numB n) (unhide hn1) (by exact unhide B1) (unhide Z1) (by have := unhide H6; have := unhide hn1; omega) (by exact Nat.le_trans (unhide Hb) (unhide F1).size) ?_; intro sp2 n2 c2 W2 hn2 ho2 hg2 hl2)
  go_ret
  exact ⟨sp2, n2, c2, rfl, hn2, ho2, Grew.aside (unhide F1) ⟨hg2, hl2⟩⟩
theorem OwnB.drew {base : Nat} {w : World} {sp : Option Addr} {c : Nat} {l : List Nat} (h : OwnB base w sp c l) : OwnB base w.drew sp c l := ⟨h.owns, h.lt⟩
end Go.Proofs.Ytcficfjgddjeeab
