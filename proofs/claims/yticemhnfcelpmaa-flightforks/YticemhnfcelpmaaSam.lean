/- Flight: the law's same and many. -/
import Derived.Test.YticemhnfcelpmaaDo0
import Derived.Test.YticemhnfcelpmaaRf10
import Derived.Deep.RegionHeld3
namespace Go.Proofs.Yticemhnfcelpmaa
open Go.ChangeShapes Go.WideShapes Go.ChangeAt Go.RowKit Go.Maps

section
variable {base : Nat} {w : World} {N M R : Nat} {s : FS} {Av : Nat → Prop}
theorem Two.few (h : Two base w N M R s s Av) : s.pk.length ≤ 128 := by
  obtain ⟨n, sp, c, xs, sr, cr, zs, pa, kr, h⟩ := h
  exact h.okN.full
set_option maxRecDepth 20000 in
set_option maxHeartbeats 8000000 in
theorem same_calls (h : Two base w N M R s s Av) (ha : s.age ≤ 900) (kd f t i : Int) (hf : In64 f) (ht : In64 t) (dp : Option Addr) (m dc : Nat) :
    Calls Try.prog 18 #[.pointer (some ⟨N, 0, none⟩), .pointer (some ⟨R, 0, none⟩), .agg #[.int .i64 kd, .int .i64 f, .int .i64 t, .int .i64 i, .slice dp m dc]] w fun e w' => e = .returned (.bool true) ∧ Below w.heap.size w w' := by
  have X1 := hide (heap_new w (dB kd f t i dp m dc))
  have b1 := hide (show Below w.heap.size w (w.alloc (dB kd f t i dp m dc)) from (Below.refl _ _).alloc (Nat.le_refl _) _)
  have H1 := hide (h.later (unhide b1))
  have HF := hide hf
  have HT := hide ht
  have few := h.few
  obtain ⟨c0, c1, c2, c3, c4⟩ := dB_cells (unhide X1)
  clear h hf ht
  go_enter Try.func18, Try.ntmps18
  go_wp2_with fail
  generalize hD : w.heap.size = D at *
  generalize w.alloc (dB kd f t i dp m dc) = w1 at *
  have B0 := hide (show Below w1.heap.size w1 w1.drew from (Below.refl _ _).drew)
  clear X1 c0 c3 c4
  go_region_held3 (fun w' => w'.cell? ⟨D, 1, none⟩ = some (.int .i64 f) ∧ w'.cell? ⟨D, 2, none⟩ = some (.int .i64 t)) (first | go_keep | exact ⟨cell_later (unhide (by assumption : Hid (Below w1.heap.size w1 _))) c1, cell_later (unhide (by assumption : Hid (Below w1.heap.size w1 _))) c2⟩) (first
    | (go_at_call 13
       refine (two_len ((unhide H1).later (unhide (by assumption : Hid (Below w1.heap.size w1 _))))).mono ?_
       rintro e W2 ⟨rfl, rfl⟩)
    | (go_at_call 38
       refine (two_rlen ((unhide H1).later (unhide (by assumption : Hid (Below w1.heap.size w1 _)))) ha).mono ?_
       rintro e W2 ⟨rfl, b2⟩
       have B2 := hide (Below.trans (unhide (by assumption : Hid (Below w1.heap.size w1 _))) (b2.mono (Below.size (unhide (by assumption : Hid (Below w1.heap.size w1 _))))))
       clear b2)
    | (go_at_call 10
       refine (two_under ((unhide H1).later (unhide (by assumption : Hid (Below w1.heap.size w1 _)))) ha).mono ?_
       rintro e W2 ⟨us, uc, ys, rfl, hys, hQ, b2⟩
       have NY := hide hys
       have NQ := hide hQ.toQ
       have B2 := hide (Below.trans (unhide (by assumption : Hid (Below w1.heap.size w1 _))) (b2.mono (Below.size (unhide (by assumption : Hid (Below w1.heap.size w1 _))))))
       try (have RQ := hide (RowQ.later (unhide RQ) b2))
       clear b2 hys hQ)
    | (go_at_call 40
       refine (two_runder ((unhide H1).later (unhide (by assumption : Hid (Below w1.heap.size w1 _)))) ha).mono ?_
       rintro e W2 ⟨vs, vc, zs, rfl, hys, hQ, b2⟩
       have RY := hide hys
       have RQ := hide hQ
       have B2 := hide (Below.trans (unhide (by assumption : Hid (Below w1.heap.size w1 _))) (b2.mono (Below.size (unhide (by assumption : Hid (Below w1.heap.size w1 _))))))
       try (have NQ := hide (RowQ.later (unhide NQ) b2))
       clear b2 hys hQ)
    | (go_at_call 39
       refine (samePackets_yes (unhide NQ) (unhide RQ) s.pk.length (by have := congrArg List.length (unhide NY); simpa using this) (by omega) ((unhide NY).trans (unhide RY).symm)).mono ?_
       rintro e W2 ⟨rfl, b2⟩
       have B2 := hide (Below.trans (unhide (by assumption : Hid (Below w1.heap.size w1 _))) (b2.mono (Below.size (unhide (by assumption : Hid (Below w1.heap.size w1 _))))))
       clear b2 NQ RQ NY RY)
    | (go_at_call 41
       refine (two_now ((unhide H1).later (unhide (by assumption : Hid (Below w1.heap.size w1 _)))) f).mono ?_
       rintro e W2 ⟨rfl, rfl⟩)
    | (go_at_call 42
       refine (two_rnow ((unhide H1).later (unhide (by assumption : Hid (Below w1.heap.size w1 _)))) f).mono ?_
       rintro e W2 ⟨rfl, rfl⟩)
    | (go_at_call 21
       refine (two_parted ((unhide H1).later (unhide (by assumption : Hid (Below w1.heap.size w1 _)))) f t (unhide HF) (unhide HT)).mono ?_
       rintro e W2 ⟨rfl, b2⟩
       have B2 := hide (Below.trans (unhide (by assumption : Hid (Below w1.heap.size w1 _))) (b2.mono (Below.size (unhide (by assumption : Hid (Below w1.heap.size w1 _))))))
       clear b2)
    | (go_at_call 43
       refine (two_rparted ((unhide H1).later (unhide (by assumption : Hid (Below w1.heap.size w1 _)))) f t).mono ?_
       rintro e W2 ⟨rfl, rfl⟩))
  all_goals
    go_wp2
    go_ret
    exact ⟨rfl, by rw [hD]; exact (unhide b1).trans ((unhide (by assumption : Hid (Below w1.heap.size w1 _))).mono (by have := (unhide b1).size; omega))⟩
theorem many_calls (a : Option Addr) (n c : Nat) (w : World) (hn : n ≤ maxLen) : Calls Try.prog 6 #[.slice a n c] w fun e w' => e = .returned (.int .i64 ((min n 400 : Nat) : Int)) ∧ w' = w := by
  simp only [maxLen] at hn
  by_cases h4 : n ≤ 400
  · have h5 : (n : Int) ≤ 400 := by omega
    have e : min n 400 = n := by omega
    rw [e]
    go_enter Try.func6, Try.ntmps6
    go_wp2
    go_ret
    exact ⟨rfl, rfl⟩
  · have h5 : ¬ (n : Int) ≤ 400 := by omega
    have e : min n 400 = 400 := by omega
    rw [e]
    go_enter Try.func6, Try.ntmps6
    go_wp2
    go_ret
    exact ⟨rfl, rfl⟩
end
end Go.Proofs.Yticemhnfcelpmaa
