/- Plane: firstOf over the three steps of an answer. -/
import Derived.Test.YtcmiappiocfbiaaGreatDoorPs4
namespace Go.Proofs.YtcmiappiocfbiaaGreatDoor
open Go.ChangeShapes Go.WideShapes Go.ChangeAt Go.RowKit
set_option linter.unusedVariables false

theorem SoSteps.row {A S : Nat} {W V : World} {l : List Nat} {rs : List Rt} {ps : List Po} {ver : Int} {ra : Option Addr} {rc : Nat} {pa : Option Addr} {pc : Nat} {ba : Option Addr} {bc d : Nat} {o : Obj} (hne : S ≠ A) (hS : W.heap[S]? = some o) : ∀ j, SoSteps A W l rs ps ver ra rc pa pc ba bc d V j → V.heap[S]? = some o := by
  have key : ∀ cs, AB A W cs V → V.heap[S]? = some o := fun cs h => (h.gr.block S (Array.getElem?_eq_some_iff.1 hS).1 (fun e => hne (Option.some.inj e))).trans hS
  intro j h
  match j, h with
  | 0, h => exact key _ h
  | 1, ⟨_, _, _, _, _, h⟩ => exact key _ h
  | 2, ⟨_, _, _, _, _, _, _, h⟩ => exact key _ h
set_option maxRecDepth 20000 in
set_option maxHeartbeats 8000000 in
theorem firstOf_calls {A S : Nat} {W0 W : World} {l : List Nat} {rs : List Rt} {ps : List Po} {ver : Int} {ra : Option Addr} {rc : Nat} {pa : Option Addr} {pc : Nat} {ba : Option Addr} {bc d : Nat} (hs : SvAt A W0 W l rs ps ra pa ba bc d)
    (hA : W.heap[A]? = some (.cells (ansC ver ra rs.length rc pa ps.length pc ba l.length bc d ⟨#[]⟩ ⟨#[]⟩ ⟨#[]⟩ ⟨#[]⟩ none 0 0 0 0 ⟨#[]⟩ ⟨#[]⟩) 60 (0, 0)))
    (hne : S ≠ A) (hS : W.heap[S]? = some (.cells #[.func (.func 18) #[.pointer (some ⟨A, 0, none⟩)] #[], .func (.func 19) #[.pointer (some ⟨A, 0, none⟩)] #[], .func (.func 20) #[.pointer (some ⟨A, 0, none⟩)] #[]] 46 (0, 0))) :
    Calls Tryz.prog 17 #[.slice (some ⟨S, 0, none⟩) 3 3] W fun e W' => FoEnd A W l rs ps ver ra rc pa pc ba bc d e W' := by
  have ST := hide (show SoSteps A W l rs ps ver ra rc pa pc ba bc d W 0 from AB.new hA)
  have RW := hide (fun V j => SoSteps.row (V := V) (l := l) (rs := rs) (ps := ps) (ver := ver) (ra := ra) (rc := rc) (pa := pa) (pc := pc) (ba := ba) (bc := bc) (d := d) hne hS j)
  have T0 := hide (fun V => step0 (ver := ver) (rc := rc) (pc := pc) (V := V) hs)
  have T1 := hide (fun V => step1 (ver := ver) (rc := rc) (pc := pc) (V := V) hs)
  have T2 := hide (fun V => step2 (ver := ver) (rc := rc) (pc := pc) (V := V) hs)
  have hE0 := enter_aparse
  have hE1 := enter_afind
  have hE2 := enter_atake
  generalize hSo : SoSteps A W l rs ps ver ra rc pa pc ba bc d = So at *
  generalize hFo : FoEnd A W l rs ps ver ra rc pa pc ba bc d = Fo at *
  have N3 := hide (show ∀ V j, So V j → j < 3 from fun V j h => by
    subst hSo
    match j, h with
    | 0, _ => omega
    | 1, _ => omega
    | 2, _ => omega)
  clear hs hA hS hSo hFo
  go_enter Tryz.func17, Tryz.ntmps17
  go_wp2_with fail
  go_loopw [8] (fun i wr => ∃ j : Nat, i = .int .i64 (j : Int) ∧ Hid (So wr j)) (fun i _ => 3 - (intOf i).toNat)
  case atStart => exact ⟨0, rfl, hide (unhide ST)⟩
  case round =>
    obtain ⟨j, rfl, B⟩ := hrel
    have hj := unhide N3 _ _ (unhide B)
    have row := unhide RW _ _ (unhide B)
    match j, hj, B with
    | 0, _, B =>
      have c0 := box_cell row 0 _ rfl
      clear row
      go_wp2_with fail
      refine (unhide T0 _ (unhide B)).mono ?_
      rintro e V1 (⟨rfl, v1⟩ | ⟨rfl, v1⟩)
      · have X := hide v1
        go_wp2
        exact unhide X
      · have X := hide v1
        go_wp2
        exact ⟨⟨1, by go_num, unhide X⟩, by simp [intOf]⟩
    | 1, _, B =>
      have c0 := box_cell row 1 _ rfl
      clear row
      go_wp2_with fail
      refine (unhide T1 _ (unhide B)).mono ?_
      rintro e V1 (⟨rfl, v1⟩ | ⟨rfl, v1⟩)
      · have X := hide v1
        go_wp2
        exact unhide X
      · have X := hide v1
        go_wp2
        exact ⟨⟨2, by go_num, unhide X⟩, by simp [intOf]⟩
    | 2, _, B =>
      have c0 := box_cell row 2 _ rfl
      clear row
      go_wp2_with fail
      refine (unhide T2 _ (unhide B)).mono ?_
      rintro e V1 ⟨rfl | rfl, v1⟩
      all_goals
        have X := hide v1
        go_wp2
        exact unhide X
end Go.Proofs.YtcmiappiocfbiaaGreatDoor
