/- bytes.Clone. -/
import Derived.Test.YtijcpmbfhfppmaaGreatDoorApp
namespace Go.Proofs.YtijcpmbfhfppmaaGreatDoor
open Go.ChangeShapes Go.WideShapes Go.ChangeAt Go.RowKit

theorem eqNil_some (ad : Addr) (n c : Nat) (w : World) : (binOp .eql 58 (.slice (some ad) n c) (.slice none 0 0)).run Tryz.prog w = .ok (.bool false) w := by kernel_rfl
theorem eqNil_none (n c : Nat) (w : World) : (binOp .eql 58 (.slice none n c) (.slice none 0 0)).run Tryz.prog w = .ok (.bool true) w := by kernel_rfl
theorem clone_calls (a : Option Addr) (n c : Nat) (l : List Nat) (w : World) (hn : l.length = n) (hl : n ≤ 140737488355328) (hb : BytesAt w a l) (hz : a = none → c = 0) :
    Calls Tryz.prog 60 #[.slice a n c] w fun e w' => ∃ sp' c', e = .returned (.slice sp' n c') ∧ OwnB w.heap.size w' sp' c' l ∧ Below w.heap.size w w' := by
  cases a with
  | none =>
    obtain rfl : l = [] := by
      cases l with
      | nil => rfl
      | cons x r => obtain ⟨b, off, h, _⟩ := hb.cell 0 (by simp); cases h
    obtain rfl := hz rfl
    obtain rfl : 0 = n := hn
    have hq := eqNil_none 0 0 w
    clear hb hz
    go_enter Tryz.func60, Tryz.ntmps60
    go_wp2
    go_ret
    exact ⟨none, 0, rfl, OwnB.ofNil _ _, Below.refl _ _⟩
  | some ad =>
    have O1 := hide (OwnB.empty w w.heap.size (Nat.le_refl _))
    have b1 := hide (show Below w.heap.size w (w.alloc (.cells #[] 5)) from (Below.refl _ _).alloc (Nat.le_refl _) _)
    have HB := hide (hb.later (unhide b1))
    have HN := hide hn
    have hq := eqNil_some ad n c w
    clear hb hz hn
    go_enter Tryz.func60, Tryz.ntmps60
    go_wp2_with (at_builtin; refine unhide ?_)
    refine hide ?_
    refine wpList_append8L rfl (.tmp 5) (.tmp 6) rfl w.heap.size (some ⟨w.heap.size, 0, none⟩) 0 0 [] rfl rfl (unhide O1) (some ad) n c rfl l (unhide HN) (unhide HB) (fun h => by cases h) (by simp only [List.length_nil]; omega) (by exact (unhide b1).size) ?_
    intro sp2 n2 c2 W2 hn2 ho2 hg2 hl2
    rw [List.nil_append] at hn2 ho2
    obtain rfl : n = n2 := (unhide HN).symm.trans (unhide hn2)
    have B2 := hide ((unhide b1).grown hg2 (unhide b1).size (fun g hg => by have := Option.some.inj hg; simp only at this; omega))
    have O2 := hide ho2
    clear hg2 hl2 ho2
    go_wp2
    go_ret
    exact ⟨sp2, c2, rfl, unhide O2, unhide B2⟩
end Go.Proofs.YtijcpmbfhfppmaaGreatDoor
