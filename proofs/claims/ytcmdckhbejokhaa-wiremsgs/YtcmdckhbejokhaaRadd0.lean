/- The document's answers of layer 2: add. -/
import Derived.Test.YtcmdckhbejokhaaRfn0
import Derived.Test.YtcmdckhbejokhaaWhard
namespace Go.Proofs.Ytcmdckhbejokhaa
open Go.ChangeShapes Go.WideShapes Go.ChangeAt Go.RowKit

theorem refAdd_calls (base : Nat) (sp : Option Addr) (n0 c : Nat) (l : List Nat) (n : Nat) (w : World) (hn0 : l.length = n0) (hown : OwnB base w sp c l) (hl : l.length ≤ 1099511627776) (hn : n ≤ 1099511627776) (hbase : base ≤ w.heap.size) :
    Calls Try.prog 20 #[.slice sp n0 c, .int .i64 (n : Int)] w fun e w' => ∃ sp' n' c', e = .returned (.slice sp' n' c') ∧ Hid ((l ++ numB n).length = n') ∧ OwnB base w' sp' c' (l ++ numB n) ∧ Grew w sp w' sp' := by
  have HO := hide hown
  have HN := hide hn0
  have Hb := hide hbase
  have H6 := hide (numB_short n hn)
  clear hown hn0 hbase
  go_enter Try.func20, Try.ntmps20
  go_wp2_with fail
  refine (refNumber_yes n _ hn).mono ?_
  rintro e W1 ⟨sp1, n1, c1, rfl, hn1, ho1, hb1⟩
  have B1 := hide ho1.bytes
  have O1 := hide ((unhide HO).later hb1)
  have F1 := hide hb1
  have Z1 := hide (show sp1 = none → c1 = 0 by
    intro e
    subst e
    rcases ho1.owns.2 with ⟨hv, _⟩ | ⟨g, cap, cur, hv, _⟩
    · simp only [Value.slice.injEq] at hv; exact hv.2.2
    · cases hv)
  clear ho1 hb1
  go_wp2_with (at_builtin; refine wpList_append8L rfl (.tmp 12) (.tmp 13) rfl base sp n0 c l rfl (unhide HN) (by exact unhide O1) sp1 n1 c1 rfl (numB n) (unhide hn1) (by exact unhide B1) (unhide Z1) (by have := unhide H6; have := unhide hn1; omega) (by exact Nat.le_trans (unhide Hb) (unhide F1).size) ?_; intro sp2 n2 c2 W2 hn2 ho2 hg2 hl2)
  go_ret
  exact ⟨sp2, n2, c2, rfl, hn2, ho2, Grew.aside (unhide F1) ⟨hg2, hl2⟩⟩
theorem OwnB.drew {base : Nat} {w : World} {sp : Option Addr} {c : Nat} {l : List Nat} (h : OwnB base w sp c l) : OwnB base w.drew sp c l := ⟨h.owns, h.lt⟩
end Go.Proofs.Ytcmdckhbejokhaa
