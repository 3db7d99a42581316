/- Flight: the law's do and play. -/
import Derived.Test.YticemhnfcelpmaaDo1
import Derived.Test.YticemhnfcelpmaaDo2
import Derived.Test.YticemhnfcelpmaaDo3
import Derived.Test.YticemhnfcelpmaaDo4
import Derived.Test.YticemhnfcelpmaaSam
import Derived.Test.YticemhnfcelpmaaDarg
namespace Go.Proofs.Yticemhnfcelpmaa
open Go.ChangeShapes Go.WideShapes Go.ChangeAt Go.RowKit Go.Maps

section
variable {base : Nat} {w : World} {N M R : Nat} {s : FS} {Av : Nat → Prop}
theorem do_calls (h : Two base w N M R s s Av) (ha : s.age ≤ 800) (kd f t i : Int) (hf : In64 f) (ht : In64 t) (dp : Option Addr) (m dc : Nat) (l : List Nat) (hm : l.length = m) (hml : m ≤ 70000) (W0 : World) (hW0 : Below W0.heap.size W0 w) (hb0 : W0.heap.size ≤ base) (hb : BytesAt W0 dp l) (hz : dp = none → dc = 0) :
    Calls Try.prog 17 #[.pointer (some ⟨N, 0, none⟩), .pointer (some ⟨R, 0, none⟩), .agg #[.int .i64 kd, .int .i64 f, .int .i64 t, .int .i64 i, .slice dp m dc]] w fun e w' => e = .returned (.bool true) ∧ (∃ s', s'.age ≤ s.age + 1 ∧ Two base w' N M R s' s' Av) ∧ Below base w w' := by
  by_cases e0 : kd = 0
  · subst e0; exact do_send h ha f t i hf ht dp m dc l hm hml W0 hW0 hb0 hb hz
  by_cases e1 : kd = 1
  · subst e1; exact do_take h ha f t i hf ht dp m dc
  by_cases e2 : kd = 2
  · subst e2; exact do_double h ha f t i hf ht dp m dc
  by_cases e3 : kd = 3
  · subst e3; exact do_part h ha f t i hf ht dp m dc
  by_cases e4 : kd = 4
  · subst e4; exact do_heal h ha f t i hf ht dp m dc
  by_cases e5 : kd = 5
  · subst e5; exact do_tick h ha f t i hf ht dp m dc
  exact do_else h ha f t i hf ht dp m dc kd (by omega)
def s0 : FS := ⟨[], 0, fun _ _ => false, List.replicate 9 0, 0⟩
theorem s0_ok : FOk s0 := ⟨List.Pairwise.nil, by simp [s0], by simp [s0], by simp [s0], by simp [s0], by simp [s0], rfl, fun j => by
  simp only [s0, List.getD_eq_getElem?_getD, List.getElem?_replicate]
  split <;> simp, fun _ _ _ => rfl⟩
theorem two_start {w W1 W2 : World} (h1 : NetAt w.heap.size W1 N M 0 none 0 [] 0 (fun _ _ => false) (List.replicate 9 0)) (b1 : Below w.heap.size w W1) (h2 : RefAt W1.heap.size W2 R none 0 [] (List.replicate 100 false) (List.replicate 10 0)) (b2 : Below W1.heap.size W1 W2) : Two w.heap.size W2 N M R s0 s0 (fun _ => False) := by
  refine ⟨0, none, 0, [], none, 0, [], List.replicate 100 false, List.replicate 10 0, ⟨h1.later b2, rfl, Nat.le_refl _, ⟨h2.blk, OwnS.ofNil _ _, Nat.le_trans b1.size h2.low, h2.hundred, h2.ten⟩, rfl, Ids.nil, rfl, fun f t hL => ?_, fun j hj => ?_, by simp, by simp, by simp, by simp, fun g hg => hg.elim, by simp, by simp, ⟨id, id, id⟩, s0_ok, s0_ok⟩⟩
  · simp only [paS, s0, List.getD_eq_getElem?_getD, List.getElem?_replicate]
    split <;> rfl
  · simp only [s0, List.getD_eq_getElem?_getD, List.getElem?_replicate]
    rw [if_pos (by omega), if_pos (by omega)]
set_option maxRecDepth 20000 in
set_option maxHeartbeats 4000000 in
theorem play_calls (a : Option Addr) (c : Nat) (es : List DeedI) (n : Nat) (hn : es.length = n) (hx : n ≤ maxLen) (hD : DeedsAt w a es) (hbd : ∀ e ∈ es, DeedBd e) : Calls Try.prog 14 #[.slice a n c] w fun e w' => ∃ N M R s, e = .returned (.tuple #[.pointer (some ⟨N, 0, none⟩), .pointer (some ⟨R, 0, none⟩), .bool true]) ∧ s.age ≤ 400 ∧ Two w.heap.size w' N M R s s (fun _ => False) ∧ Below w.heap.size w w' := by
  have HD := hide hD
  have HB := hide hbd
  have HN := hide hn
  clear hD hbd hn
  go_enter Try.func14, Try.ntmps14
  go_wp2_with fail
  refine (new_calls _).mono ?_
  rintro e W1 ⟨N, M, rfl, h1, b1⟩
  have H1 := hide h1
  have B1 := hide b1
  clear h1 b1
  go_wp2_with fail
  refine (refNew_calls _).mono ?_
  rintro e W2 ⟨R, rfl, h2, b2⟩
  have T2 := hide (two_start (unhide H1) (unhide B1) h2 b2)
  have F2 := hide ((unhide B1).trans (b2.mono (unhide B1).size))
  clear h2 b2 H1 B1
  go_wp2_with fail
  go_loopw [7] (fun v wr => ∃ (j : Nat) (s : FS), j ≤ min n 400 ∧ v = .int .i64 (j : Int) ∧ Hid (s.age ≤ j) ∧ Hid (Two w.heap.size wr N M R s s (fun _ => False)) ∧ Hid (Below w.heap.size w wr)) (fun v _ => min n 400 - (intOf v).toNat)
  case atStart => exact ⟨0, s0, by omega, rfl, Nat.le_refl _, unhide T2, unhide F2⟩
  case round =>
    obtain ⟨j, s, hj, rfl, hs, T, F⟩ := hrel
    clear T2 F2
    go_wp2_with fail
    refine (many_calls a n c _ hx).mono ?_
    rintro e wr' ⟨rfl, rfl⟩
    by_cases hjm : j < min n 400
    · have hjn : j < es.length := by rw [unhide HN]; omega
      obtain ⟨b, off, dp, dc, rfl, q0, q1, q2, q3, q4, pb, pz⟩ := (unhide HD).cell j hjn
      have p0 := cell_later (unhide F) q0
      have p1 := cell_later (unhide F) q1
      have p2 := cell_later (unhide F) q2
      have p3 := cell_later (unhide F) q3
      have p4 := cell_later (unhide F) q4
      clear q0 q1 q2 q3 q4
      have hE := hide (unhide HB es[j] (List.getElem_mem hjn))
      have hj0 : (0 : Int) ≤ (j : Int) := by omega
      have hj1 : (j : Int) < (n : Int) := by omega
      have hj2 : (j : Int) < ((min n 400 : Nat) : Int) := by omega
      generalize es[j] = d at *
      obtain ⟨kd, f, t, i, l⟩ := d
      simp only at p0 p1 p2 p3 p4 pb
      have PB := hide pb
      have PZ := hide pz
      clear pb pz
      by_cases hl : 70000 < l.length
      · have hl' : (70000 : Int) < (l.length : Int) := by omega
        go_wp2
        exact ⟨⟨j + 1, s, by omega, by go_num, Nat.le_succ_of_le (unhide hs), unhide T, unhide F⟩, by simp [intOf]; omega⟩
      · have hl' : ¬ (70000 : Int) < (l.length : Int) := by omega
        go_wp2_with fail
        refine (do_calls (unhide T) (by have := unhide hs; omega) kd f t i (unhide hE).2.1 (unhide hE).2.2.1 dp l.length dc l rfl (by omega) w (unhide F) (Nat.le_refl _) (unhide PB) (unhide PZ)).mono ?_
        rintro e W3 ⟨rfl, ⟨s3, a3, h3⟩, g3⟩
        have T3 := hide h3
        have A3 := hide (show s3.age ≤ j + 1 by have := unhide hs; omega)
        have F3 := hide ((unhide F).trans g3)
        clear h3 a3 g3
        go_wp2
        exact ⟨⟨j + 1, s3, by omega, by go_num, unhide A3, unhide T3, unhide F3⟩, by simp [intOf]; omega⟩
    · obtain rfl : j = min n 400 := by omega
      have hjj : ¬ (((min n 400 : Nat) : Int) < ((min n 400 : Nat) : Int)) := by omega
      go_wp2
      go_ret3
      exact ⟨N, M, R, s, rfl, Nat.le_trans (unhide hs) (by omega), unhide T, unhide F⟩
end
end Go.Proofs.Yticemhnfcelpmaa
