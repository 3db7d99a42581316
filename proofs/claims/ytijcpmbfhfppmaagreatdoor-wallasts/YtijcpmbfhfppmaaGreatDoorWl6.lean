/- Logs: any record is taken; what a row of records says. -/
import Derived.Test.YtijcpmbfhfppmaaGreatDoorWl5
import Derived.Laws.ResultCell
namespace Go.Proofs.YtijcpmbfhfppmaaGreatDoor
open Go.ChangeShapes Go.WideShapes Go.ChangeAt Go.RowKit
set_option linter.unusedVariables false

section
variable {w : World} {B : Nat} {T : TypeId} {p q : List Value} {c : Wc} {ep : Option Addr} {ec : Nat} {base : Nat} {hs : List (Option Addr × Nat)}
set_option maxRecDepth 20000 in
set_option maxHeartbeats 8000000 in
theorem take_calls (h : CtAt w B T p q c ep ec) (o : Nat) (ho : p.length = o) (hT : T ≠ 60) (hT2 : T ≠ 5) (hE : OwnL base w ep ec c.es hs) (hbi : c.bi ≤ 1099511627776) (hle : c.es.length ≤ 1000000) (hbs : base ≤ w.heap.size) (a : Option Addr) (n k : Nat) (l : List Nat) (hn : l.length = n) (hm : n ≤ 140737488355328) (hnk : n ≤ k) (hz : a = none → k = 0) (hb : BytesAt w a l) :
    Calls Tryz.prog 134 #[.pointer (some ⟨B, o, none⟩), .slice a n k] w (TakeEnd base w B T p q ep hs (takeR c l)) := by
  cases l with
  | nil =>
    subst hn
    have FE := hide (show TakeEnd base w B T p q ep hs (takeR c []) (.returned (.bool false)) w from below_fin (Below.refl _ _))
    clear h hE hb hz hnk hm
    go_enter Tryz.func134, Tryz.ntmps134
    go_wp2
    go_ret
    exact unhide FE
  | cons kd b =>
    obtain ⟨bb, off, hoff, hcell⟩ := hb.cell 0 (by simp)
    have hkd := hb.lt kd (by simp)
    have hln : b.length = n - 1 := by rw [← hn]; simp
    have hn1 : 1 ≤ n := by rw [← hn]; simp
    have hbt : BytesAt w (slp a 1 k) b := by
      have := hb.drop 1 k (by rw [hn]; exact hnk)
      simpa using this
    have hz' : slp a 1 k = none → k - 1 = 0 := fun e => by
      unfold slp at e
      split at e
      · rename_i h1
        omega
      · subst hoff
        cases e
    have hsl := fun u => run_slice_l8 a n k 1 hn1 u
    have MC := hide (takeMark_calls (base := base) (hs := hs) h o ho (slp a 1 k) (n - 1) (k - 1) b hln (by omega) hbt)
    have HCl := hide (takeHard_calls h o ho hT hT2 hE (slp a 1 k) (n - 1) (k - 1) b hln (by omega) hbt)
    have EC := hide (takeEntry_calls h o ho hT hT2 hE hbi hle hbs (slp a 1 k) (n - 1) (k - 1) b hln (by omega) (by omega) hz' hbt)
    have TR := hide (show takeR c (kd :: b) = (if kd = 1 then markR c b else if kd = 2 then hardR c b else if kd = 3 then entR c b else none) from rfl)
    rw [hoff] at MC HCl EC hsl ⊢
    rw [Nat.add_zero] at hcell
    have hc2 : w.cell? ⟨bb, off, none⟩ = some (.int .u8 (kd : Int)) := hcell
    clear hcell
    have hn0 : ((n : Int) == 0) = false := by simp; omega
    have hn2 : (0 : Int) < (n : Int) := by omega
    have B0 := hide (show TakeEnd base w B T p q ep hs none (.returned (.bool false)) w from below_fin (Below.refl _ _))
    generalize slp (some ⟨bb, off, none⟩) 1 k = sl at *
    clear hb hbt hoff hE h hln hz hz'
    have hsl1 : ∀ u, (Instr.slice 58 (.slice (some ⟨bb, off, none⟩) n k) (some (.int .i64 1)) none none).run Tryz.prog u = .ok (.slice sl (n - 1) (k - 1)) u := hsl
    clear hsl
    by_cases h1 : kd = 1
    · rw [if_pos h1] at TR
      rw [unhide TR]
      subst h1
      go_enter Tryz.func134, Tryz.ntmps134
      go_wp2_with fail
      go_at_call 163
      refine (unhide MC).mono ?_
      intro e V hV
      have FE := hide hV
      obtain ⟨b', rfl⟩ : ∃ b' : Bool, e = .returned (.bool b') := by
        have := hV.2
        cases hr : markR c b with
        | none => rw [hr] at this; exact ⟨_, this⟩
        | some c' => rw [hr] at this; exact ⟨_, this.1⟩
      clear hV
      go_wp2
      go_ret
      exact unhide FE
    · rw [if_neg h1] at TR
      have e1 : ((kd : Int) == 1) = false := by simp; omega
      by_cases h2 : kd = 2
      · rw [if_pos h2] at TR
        rw [unhide TR]
        subst h2
        go_enter Tryz.func134, Tryz.ntmps134
        go_wp2_with fail
        go_at_call 164
        refine (unhide HCl).mono ?_
        intro e V hV
        have FE := hide hV
        obtain ⟨b', rfl⟩ : ∃ b' : Bool, e = .returned (.bool b') := by
          have := hV.2
          cases hr : hardR c b with
          | none => rw [hr] at this; exact ⟨_, this⟩
          | some c' => rw [hr] at this; exact ⟨_, this.1⟩
        clear hV
        go_wp2
        go_ret
        exact unhide FE
      · rw [if_neg h2] at TR
        have e2 : ((kd : Int) == 2) = false := by simp; omega
        by_cases h3 : kd = 3
        · rw [if_pos h3] at TR
          rw [unhide TR]
          subst h3
          go_enter Tryz.func134, Tryz.ntmps134
          go_wp2_with fail
          go_at_call 165
          refine (unhide EC).mono ?_
          intro e V hV
          have FE := hide hV
          obtain ⟨b', rfl⟩ : ∃ b' : Bool, e = .returned (.bool b') := by
            have := hV.2
            cases hr : entR c b with
            | none => rw [hr] at this; exact ⟨_, this⟩
            | some c' => rw [hr] at this; exact ⟨_, this.1⟩
          clear hV
          go_wp2
          go_ret
          exact unhide FE
        · rw [if_neg h3] at TR
          rw [unhide TR]
          have e3 : ((kd : Int) == 3) = false := by simp; omega
          have m1 : ¬ (kd : Int) = 1 := by omega
          have m2 : ¬ (kd : Int) = 2 := by omega
          have m3 : ¬ (kd : Int) = 3 := by omega
          clear h1 h2 h3
          go_enter Tryz.func134, Tryz.ntmps134
          go_wp2
          go_ret
          exact unhide B0
end
def isMarkL (l : List Nat) : Bool := l.head? == some 1
theorem isMark_calls (a : Option Addr) (n k : Nat) (l : List Nat) (w : World) (hn : l.length = n) (hm : n ≤ 140737488355328) (hb : BytesAt w a l) :
    Calls Tryz.prog 133 #[.slice a n k] w fun e w' => e = .returned (.bool (isMarkL l)) ∧ w' = w := by
  cases l with
  | nil =>
    obtain rfl : n = 0 := by simpa using hn.symm
    clear hn hb hm
    go_enter Tryz.func133, Tryz.ntmps133
    go_wp2
    go_ret
    exact ⟨rfl, rfl⟩
  | cons kd b =>
    obtain ⟨bb, off, rfl, hcell⟩ := hb.cell 0 (by simp)
    have hkd := hb.lt kd (by simp)
    have hn1 : 1 ≤ n := by rw [← hn]; simp
    have hn2 : (0 : Int) < (n : Int) := by omega
    rw [Nat.add_zero] at hcell
    have hc2 : w.cell? ⟨bb, off, none⟩ = some (.int .u8 (kd : Int)) := hcell
    clear hcell
    have FE := hide (show isMarkL (kd :: b) = ((kd : Int) == 1) by
      unfold isMarkL
      simp only [List.head?_cons]
      by_cases h : kd = 1
      · subst h; rfl
      · rw [show ((kd : Int) == 1) = false by simp; omega]
        simpa using h)
    generalize isMarkL (kd :: b) = im at *
    clear hn hb
    go_enter Tryz.func133, Tryz.ntmps133
    go_wp2
    go_ret
    exact ⟨by rw [unhide FE]; rfl, rfl⟩
end Go.Proofs.YtijcpmbfhfppmaaGreatDoor
