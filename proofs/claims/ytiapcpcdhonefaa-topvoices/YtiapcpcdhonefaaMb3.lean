/- Member: majority. -/
import Derived.Test.YtiapcpcdhonefaaMb2
namespace Go.Proofs.Ytiapcpcdhonefaa
open Go.ChangeShapes Go.WideShapes Go.ChangeAt Go.RowKit Go.Maps

theorem count_step (x : Int) (p p' : Int → Bool) (hp : p x = false) : ∀ (vs : List Int), vs.Nodup → x ∈ vs → (∀ y ∈ vs, y ≠ x → p' y = p y) → (vs.filter p').length = (vs.filter p).length + (if p' x then 1 else 0)
  | [], _, hx, _ => by simp at hx
  | y :: r, hnd, hx, hy => by
    obtain ⟨hnr, hnd'⟩ := List.nodup_cons.1 hnd
    by_cases e : y = x
    · subst e
      have h1 : r.filter p' = r.filter p := List.filter_congr (fun z hz => hy z (List.mem_cons_of_mem _ hz) (fun e => hnr (e ▸ hz)))
      rw [List.filter_cons, List.filter_cons, hp, h1]
      cases p' y <;> simp
    · have ih := count_step x p p' hp r hnd' ((List.mem_cons.1 hx).resolve_left (fun e' => e e'.symm)) (fun z hz => hy z (List.mem_cons_of_mem _ hz))
      rw [List.filter_cons, List.filter_cons, hy y List.mem_cons_self e]
      cases p y
      · simpa using ih
      · simp only [if_true, List.length_cons, ih]
        omega
section
variable {w : World} {B n : Nat} {vs : List Int} {f : Int → Int}
set_option maxRecDepth 20000 in
set_option maxHeartbeats 4000000 in
theorem majority_calls (h : TallyAt w B n vs f) (hnd : vs.Nodup) (hvs : ∀ x ∈ vs, In64 x) (hvf : ∀ x ∈ vs, In64 (f x)) (hln : vs.length ≤ 100) {K : Nat} {caps : Array Value} {pick : Int → Bool} (hK : PickI K caps pick w) :
    Calls Try.prog 22 #[.map (some B), .func (.func K) #[] caps] w fun e w' => e = .returned (.bool (decide (vs.length / 2 < (vs.filter fun x => pick (f x)).length))) ∧ Below w.heap.size w w' := by
  obtain ⟨D, hD, hH, hA, hS⟩ := h.map
  have HD := hide hD
  have HH := hide hH
  have HA := hide hA
  have HS := hide hS
  have HK := hide hK
  have hE := hK.enter
  have ND := hide hnd
  have VS := hide hvs
  have VF := hide hvf
  clear h hD hH hA hS hK hnd hvs hvf
  go_enter Try.func22, Try.ntmps22
  go_wp2_with (at_range; refine unhide ?_)
  refine hide ?_
  refine wpList_range_own _ rfl _ 60 rfl 3 3 intLaw Try.underlying60 _ B n D rfl (unhide HD) ?_
  intro w0 hrg0 hg0 hs0
  have RG0 := hide hrg0
  have F0 := hide (show Below w.heap.size w w0 from ⟨hg0.os, hg0.tape, hg0.output, hg0.size, fun i hi => hg0.block i hi (by simp)⟩)
  clear hrg0 hg0 hs0
  go_frame
  go_wp2_with fail
  generalize hr : w.heap.size = r at *
  go_loopw [5] (fun v wr => ∃ (left : Lit → Bool) (cnt q : Nat), v = .int .i64 (q : Int) ∧ q ≤ 100 ∧ Hid (wr.ranges Try.prog 3 (plainElem Try.prog 3) B r n D left cnt) ∧ Hid (∀ x, In64 x → left (.int .i64 x) = true → x ∈ vs) ∧ Hid ((vs.filter fun x => !left (.int .i64 x) && pick (f x)).length = q) ∧ Hid (Below r w wr)) (fun _ wr => wr.rangeLeft B r)
  case atStart =>
    refine ⟨Maps.has D, Maps.size D, 0, rfl, by omega, unhide RG0, fun x hx hl => ?_, ?_, unhide F0⟩
    · rw [unhide HH x hx] at hl
      simpa using hl
    · have : (vs.filter fun x => !Maps.has D (.int .i64 x) && pick (f x)) = [] := by
        rw [List.filter_eq_nil_iff]
        intro x hx
        rw [unhide HH x (unhide VS x hx)]
        simp [hx]
      show (vs.filter fun x => !Maps.has D (.int .i64 x) && pick (f x)).length = 0
      rw [this]
      rfl
  case round =>
    obtain ⟨left, cnt, q, rfl, hq, RG, HL, HQ, F⟩ := hrel
    go_wp2_with (at_next; refine unhide ?_)
    refine hide ?_
    refine wpList_next_ranges_ii _ rfl _ rfl 3 3 .i64 .i64 intLaw Try.underlying3 Try.underlying3 B r n D left cnt rfl (unhide RG) ?_ ?_
    · intro hc0 hl0
      have Q2 := hide (show (vs.filter fun x => pick (f x)).length = q by
        rw [← unhide HQ]
        congr 1
        refine List.filter_congr (fun x _ => ?_)
        rw [hl0]
        rfl)
      have HD2 := hide ((unhide RG).owns)
      have hln2 := (unhide RG).owns.len Try.underlying60 3
      rw [unhide HS] at hln2
      clear hc0 hl0
      generalize hL : vs.length = L at *
      go_wp2
      go_ret
      refine ⟨?_, by rw [hr]; exact unhide F⟩
      rw [hL, unhide Q2]
      show Ending.returned (.bool (decide ((L : Int) / 2 < (q : Int)))) = _
      have e1 : decide ((L : Int) / 2 < (q : Int)) = decide (L / 2 < q) := decide_eq_decide.2 (by omega)
      rw [e1]
    · intro x c w1 cnt1 hwx hwc hlx hat hrg1 hlt hg1 hs1 hen
      have hx64 : In64 x := i64_bounds hwx
      have hxv := unhide HL x hx64 hlx
      have hc : c = f x := by
        have h1 := hat (.lit (.int .i64 0))
        rw [unhide HA x hx64 hxv] at h1
        simpa using h1.symm
      subst hc
      have F1 := hide ((unhide F).grown hg1 (by have := (unhide F).size; omega) (fun g' hg' => by have := Option.some.inj hg'; omega))
      have RG1 := hide hrg1
      have HC := hide hlt
      have LX := hide hlx
      have hf64 := hide (unhide VF x hxv)
      have XV := hide hxv
      have X64 := hide hx64
      clear hwx hwc hlx hat hrg1 hlt hg1 hs1 hx64 hxv
      go_wp2_with fail
      refine ((unhide HK).call (f x) w1 (unhide hf64) (by rw [hr]; exact unhide F1)).mono ?_
      rintro e w2 ⟨rfl, b2⟩
      have F2 := hide ((unhide F1).trans (b2.mono (by have := (unhide F1).size; omega)))
      have RG2 := hide ((unhide RG1).kept (grown_below none b2) (by simp) (by simp))
      have HL2 := hide (show ∀ y, In64 y → (left (.int .i64 y) && !(Lit.int .i64 y).sameKey (.int .i64 x)) = true → y ∈ vs from fun y hy hl => unhide HL y hy (by simp only [Bool.and_eq_true] at hl; exact hl.1))
      have HQ2 := hide (show (vs.filter fun y => !(left (.int .i64 y) && !(Lit.int .i64 y).sameKey (.int .i64 x)) && pick (f y)).length = q + (if pick (f x) then 1 else 0) by
        rw [count_step x (fun y => !left (.int .i64 y) && pick (f y)) (fun y => !(left (.int .i64 y) && !(Lit.int .i64 y).sameKey (.int .i64 x)) && pick (f y)) (by simp [unhide LX]) vs (unhide ND) (unhide XV) (fun y _ hne => by simp [Lit.sameKey, hne])]
        rw [unhide HQ]
        simp [Lit.sameKey])
      have HLe := hide (show q + (if pick (f x) then 1 else 0) ≤ 100 by rw [← unhide HQ2]; exact Nat.le_trans (List.length_filter_le _ _) hln)
      clear b2
      cases hp : pick (f x)
      · rw [hp] at HQ2 HLe
        go_wp2
        exact ⟨⟨_, cnt1, q, rfl, by omega, unhide RG2, unhide HL2, unhide HQ2, unhide F2⟩, by rw [(unhide RG2).left_eq, (unhide RG).left_eq]; exact unhide HC⟩
      · rw [hp] at HQ2 HLe
        have hle : q + 1 ≤ 100 := unhide HLe
        go_wp2
        exact ⟨⟨_, cnt1, q + 1, by go_num, hle, unhide RG2, unhide HL2, unhide HQ2, unhide F2⟩, by rw [(unhide RG2).left_eq, (unhide RG).left_eq]; exact unhide HC⟩
end
end Go.Proofs.Ytiapcpcdhonefaa
