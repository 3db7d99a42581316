/- Plane: the first of the three steps that has a status. -/
import Derived.Test.YtcmiappiocfbiaaGreatDoorPs3
namespace Go.Proofs.YtcmiappiocfbiaaGreatDoor
open Go.ChangeShapes Go.WideShapes Go.ChangeAt Go.RowKit
set_option linter.unusedVariables false

/-- Status, pool and address of an answer: by bytes, routes, pools and draw alone. -/
def serveL (l : List Nat) (rs : List Rt) (ps : List Po) (d : Nat) : Int × ByteArray × ByteArray := match parseL (txN l) with
  | .bad _ => (400, ⟨#[]⟩, ⟨#[]⟩)
  | .ok h _ => match bestN (stS h.host) (stS h.path) rs rs.length with
    | none => (404, ⟨#[]⟩, ⟨#[]⟩)
    | some b => match addrN (rs.getD b rt0).l ps d with
      | none => (503, (rs.getD b rt0).l, ⟨#[]⟩)
      | some y => (200, (rs.getD b rt0).l, y)
/-- What the three steps read, as it lay there ahead of the answer. -/
structure SvAt (A : Nat) (W0 W : World) (l : List Nat) (rs : List Rt) (ps : List Po) (ra : Option Addr) (pa ba : Option Addr) (bc d : Nat) : Prop where
  le : W0.heap.size ≤ A
  bw : Below W0.heap.size W0 W
  rts : RtsAt W0 ra rs
  pos : PosAt W0 pa ps
  rl : rs.length ≤ maxLen
  pl : ps.length ≤ maxLen
  tl : ∀ y ∈ ps, y.ts.length ≤ 1000
  dl : d < 18446744073709551616
  bts : BytesAt W0 ba l
  bl : l.length ≤ bc
  bz : ba = none → bc = 0
  lz : Lz W0
theorem SvAt.step {A : Nat} {W0 W V : World} {l : List Nat} {rs : List Rt} {ps : List Po} {ra pa ba : Option Addr} {bc d : Nat} {cs : Array Value} (h : SvAt A W0 W l rs ps ra pa ba bc d) (hV : AB A W cs V) : SvAt A W0 V l rs ps ra pa ba bc d :=
  { h with bw := h.bw.trans (hV.below h.le) }
/-- How far the steps have come. -/
def SoSteps (A : Nat) (W : World) (l : List Nat) (rs : List Rt) (ps : List Po) (ver : Int) (ra : Option Addr) (rc : Nat) (pa : Option Addr) (pc : Nat) (ba : Option Addr) (bc d : Nat) (V : World) : Nat → Prop
  | 0 => AB A W (ansC ver ra rs.length rc pa ps.length pc ba l.length bc d ⟨#[]⟩ ⟨#[]⟩ ⟨#[]⟩ ⟨#[]⟩ none 0 0 0 0 ⟨#[]⟩ ⟨#[]⟩) V
  | 1 => ∃ h k fa fc, parseL (txN l) = .ok h k ∧ AB A W (ansC ver ra rs.length rc pa ps.length pc ba l.length bc d (stS h.method) (stS h.path) (stS h.query) (stS h.host) fa h.fields.length fc 0 0 ⟨#[]⟩ ⟨#[]⟩) V
  | 2 => ∃ h k fa fc b, parseL (txN l) = .ok h k ∧ bestN (stS h.host) (stS h.path) rs rs.length = some b ∧ AB A W (ansC ver ra rs.length rc pa ps.length pc ba l.length bc d (stS h.method) (stS h.path) (stS h.query) (stS h.host) fa h.fields.length fc 0 0 (rs.getD b rt0).l ⟨#[]⟩) V
  | _ => False
/-- How the three steps end. -/
def FoEnd (A : Nat) (W : World) (l : List Nat) (rs : List Rt) (ps : List Po) (ver : Int) (ra : Option Addr) (rc : Nat) (pa : Option Addr) (pc : Nat) (ba : Option Addr) (bc d : Nat) (e : Ending) (W' : World) : Prop :=
  e = .returned (.int .i64 (serveL l rs ps d).1) ∧ ∃ m p q x fa fn fc, AB A W (ansC ver ra rs.length rc pa ps.length pc ba l.length bc d m p q x fa fn fc 0 0 (serveL l rs ps d).2.1 (serveL l rs ps d).2.2) W'
theorem enter_aparse (c : Array Value) (w : World) : (callFunc 18 c).run Tryz.prog w = .ok (.enter 18 c) w := by
  simp [callFunc, go_sem, Tryz.func18]
  rw [if_neg (by decide +kernel), if_neg (fun h => by cases h)]
theorem enter_afind (c : Array Value) (w : World) : (callFunc 19 c).run Tryz.prog w = .ok (.enter 19 c) w := by
  simp [callFunc, go_sem, Tryz.func19]
  rw [if_neg (by decide +kernel), if_neg (fun h => by cases h)]
theorem enter_atake (c : Array Value) (w : World) : (callFunc 20 c).run Tryz.prog w = .ok (.enter 20 c) w := by
  simp [callFunc, go_sem, Tryz.func20]
  rw [if_neg (by decide +kernel), if_neg (fun h => by cases h)]
section
variable {A : Nat} {W0 W V : World} {l : List Nat} {rs : List Rt} {ps : List Po} {ver : Int} {ra : Option Addr} {rc : Nat} {pa : Option Addr} {pc : Nat} {ba : Option Addr} {bc d : Nat}
theorem step0 (hs : SvAt A W0 W l rs ps ra pa ba bc d) (h : SoSteps A W l rs ps ver ra rc pa pc ba bc d V 0) :
    Calls Tryz.prog 18 #[.pointer (some ⟨A, 0, none⟩)] V fun e V' => (e = .returned (.int .i64 400) ∧ FoEnd A W l rs ps ver ra rc pa pc ba bc d e V') ∨ (e = .returned (.int .i64 0) ∧ SoSteps A W l rs ps ver ra rc pa pc ba bc d V' 1) := by
  unfold SoSteps at h
  have s := hs.step h
  refine (aparse_calls A V l ver ra rs.length rc pa ps.length pc ba l.length bc d h.row rfl s.bl (s.bts.later s.bw) s.bz (s.lz.later s.bw)).mono ?_
  intro e V' he
  unfold APEnd at he
  cases hp : parseL (txN l) with
  | bad n =>
    rw [hp] at he
    obtain ⟨rfl, he⟩ := he
    refine .inl ⟨rfl, ?_⟩
    have e1 : serveL l rs ps d = (400, ⟨#[]⟩, ⟨#[]⟩) := by unfold serveL; rw [hp]
    unfold FoEnd
    rw [e1]
    exact ⟨rfl, _, _, _, _, _, _, _, h.trans he⟩
  | ok g k =>
    rw [hp] at he
    obtain ⟨rfl, fa, fc, he⟩ := he
    exact .inr ⟨rfl, g, k, fa, fc, hp, h.trans he⟩
theorem step1 (hs : SvAt A W0 W l rs ps ra pa ba bc d) (h : SoSteps A W l rs ps ver ra rc pa pc ba bc d V 1) :
    Calls Tryz.prog 19 #[.pointer (some ⟨A, 0, none⟩)] V fun e V' => (e = .returned (.int .i64 404) ∧ FoEnd A W l rs ps ver ra rc pa pc ba bc d e V') ∨ (e = .returned (.int .i64 0) ∧ SoSteps A W l rs ps ver ra rc pa pc ba bc d V' 2) := by
  obtain ⟨g, k, fa, fc, hp, h⟩ := h
  have s := hs.step h
  refine (afind_calls A V rs ver ra rs.length rc pa ps.length pc ba l.length bc d _ _ _ _ _ _ _ h.row (s.rts.later s.bw) rfl s.rl).mono ?_
  intro e V' he
  unfold AFEnd at he
  cases hb : bestN (stS g.host) (stS g.path) rs rs.length with
  | none =>
    rw [hb] at he
    obtain ⟨rfl, he⟩ := he
    refine .inl ⟨rfl, ?_⟩
    have e1 : serveL l rs ps d = (404, ⟨#[]⟩, ⟨#[]⟩) := by unfold serveL; rw [hp]; dsimp only; rw [hb]
    unfold FoEnd
    rw [e1]
    exact ⟨rfl, _, _, _, _, _, _, _, h.trans he⟩
  | some b =>
    rw [hb] at he
    obtain ⟨rfl, he⟩ := he
    exact .inr ⟨rfl, g, k, fa, fc, b, hp, hb, h.trans he⟩
theorem step2 (hs : SvAt A W0 W l rs ps ra pa ba bc d) (h : SoSteps A W l rs ps ver ra rc pa pc ba bc d V 2) :
    Calls Tryz.prog 20 #[.pointer (some ⟨A, 0, none⟩)] V fun e V' => (e = .returned (.int .i64 503) ∨ e = .returned (.int .i64 200)) ∧ FoEnd A W l rs ps ver ra rc pa pc ba bc d e V' := by
  obtain ⟨g, k, fa, fc, b, hp, hb, h⟩ := h
  have s := hs.step h
  refine (atake_calls A V ps ver ra rs.length rc pa ps.length pc ba l.length bc d _ _ _ _ _ _ _ _ h.row W0 s.le s.pos s.bw rfl s.pl s.tl s.dl).mono ?_
  intro e V' he
  unfold ATEnd at he
  cases ha : addrN (rs.getD b rt0).l ps d with
  | none =>
    rw [ha] at he
    obtain ⟨rfl, he⟩ := he
    refine ⟨.inl rfl, ?_⟩
    have e1 : serveL l rs ps d = (503, (rs.getD b rt0).l, ⟨#[]⟩) := by unfold serveL; rw [hp]; dsimp only; rw [hb]; dsimp only; rw [ha]
    unfold FoEnd
    rw [e1]
    exact ⟨rfl, _, _, _, _, _, _, _, h.trans he⟩
  | some y =>
    rw [ha] at he
    obtain ⟨rfl, he⟩ := he
    refine ⟨.inr rfl, ?_⟩
    have e1 : serveL l rs ps d = (200, (rs.getD b rt0).l, y) := by unfold serveL; rw [hp]; dsimp only; rw [hb]; dsimp only; rw [ha]
    unfold FoEnd
    rw [e1]
    exact ⟨rfl, _, _, _, _, _, _, _, h.trans he⟩
end
end Go.Proofs.YtcmiappiocfbiaaGreatDoor
