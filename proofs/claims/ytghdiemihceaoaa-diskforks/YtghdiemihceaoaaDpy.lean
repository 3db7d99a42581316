/- The law's play: deeds (up to 200) on both. -/
import Derived.Test.YtghdiemihceaoaaDpl
namespace Go.Proofs.Ytghdiemihceaoaa
open Go.ChangeShapes Go.WideShapes Go.ChangeAt Go.RowKit Go.Maps
def PlayEnd (w : World) (room : Nat) (e : Ending) (w' : World) : Prop := ∃ d M R N ss, e = .returned (.tuple #[.pointer (some ⟨d, 0, none⟩), .pointer (some ⟨R, 0, none⟩), .bool true]) ∧ N ≤ 200 ∧ Two w.heap.size [] w' d M R room N ss ss ∧ Below w.heap.size w w'
set_option maxRecDepth 20000 in
set_option maxHeartbeats 40000000 in
theorem play_calls (z : Int) (a : Option Addr) (n c : Nat) (es : List De) (w : World) (hn : es.length = n) (hx : n ≤ maxLen) (hD : DesAt w a es) :
    Calls Try.prog 20 #[.int .i64 z, .slice a n c] w (PlayEnd w z.toNat) := by
  have HD := hide hD
  simp only [maxLen] at hx
  have HN := hide hn
  clear hD hn
  have LN := hide (lnew_calls w z)
  obtain ⟨room, hroom⟩ : ∃ room, z.toNat = room := ⟨_, rfl⟩
  have RO := hide hroom
  rw [hroom] at LN ⊢
  clear hroom
  go_enter Try.func20, Try.ntmps20
  go_wp2_with (first
    | (go_at_call 12
       refine (unhide LN).mono ?_
       rintro e W1 ⟨d, M, rfl, h1, b1⟩
       have B1 := hide b1
       have MN := hide (mnew_calls W1 b1.size z d M h1 (unhide RO))
       clear b1 h1)
    | (go_at_call 13
       refine (unhide MN).mono ?_
       rintro e W2 ⟨R, rfl, h2, b2⟩
       have B2 := hide ((unhide B1).trans (b2.mono (unhide B1).size))
       have T2 := hide h2
       clear b2 h2))
  go_loopw [9] (fun i wr => ∃ (j N : Nat) (ss : Ds), j ≤ n ∧ j ≤ 200 ∧ i = .int .i64 (j : Int) ∧ Hid (N ≤ j) ∧ Hid (Two w.heap.size [] wr d M R room N ss ss) ∧ Hid (Below w.heap.size w wr)) (fun i _ => n - (intOf i).toNat)
  case atStart => exact ⟨0, 0, [], by omega, by omega, rfl, hide (Nat.le_refl _), T2, B2⟩
  case round =>
    obtain ⟨j, N, ss, hj, hj200, rfl, HNj, T, F⟩ := hrel
    clear T2 B2 B1 MN LN
    by_cases hjm : j < n ∧ j < 200
    · have y0 : (0 : Int) ≤ (j : Int) := by omega
      have y1 : (j : Int) < (n : Int) := by omega
      have y2 : (j : Int) < 200 := by omega
      have hjl : j < es.length := by rw [unhide HN]; exact hjm.1
      obtain ⟨b, off, hh, rfl, cc, ha⟩ := (unhide HD).cell j hjl
      have LW := hide (fun W (hb : Below w.heap.size w W) => (DeLow.of ha).below hb)
      have CW := hide (show ∀ W, Below w.heap.size w W → deCells es[j] hh W b (off + j * 6) from fun W hb => by
        obtain ⟨h1, h2, h3, h4, h5, h6⟩ := cc
        exact ⟨cell_later hb h1, cell_later hb h2, cell_later hb h3, cell_later hb h4, cell_later hb h5, cell_later hb h6⟩)
      clear cc ha
      generalize es[j] = e at *
      have hN1 : N + 1 ≤ 300 := by have := unhide HNj; omega
      obtain ⟨q0, q1, q2, q3, q4, q5⟩ := unhide CW wr (unhide F)
      have SC := hide (short_calls e hh wr)
      unfold deVal at SC
      have DC := hide (fun W (hb : Below w.heap.size w W) (hT : Two w.heap.size [] W d M R room N ss ss) (hs : e.short = true) => do_calls hT hN1 e hh (unhide LW W hb) hs)
      unfold deVal at DC
      cases hsh : e.short with
      | false =>
        rw [hsh] at SC
        go_wp2_with (go_at_call 14; refine (unhide SC).mono ?_; rintro r W1 ⟨rfl, b1⟩; have T1 := hide ((unhide T).later b1); have F1 := hide ((unhide F).trans (b1.mono (unhide F).size)); clear b1)
        exact ⟨⟨j + 1, N, ss, by omega, by omega, by go_num, hide (Nat.le_succ_of_le (unhide HNj)), T1, F1⟩, by simp [intOf]; omega⟩
      | true =>
        rw [hsh] at SC
        go_wp2_with (first
          | (go_at_call 14
             refine (unhide SC).mono ?_
             rintro r W1 ⟨rfl, b1⟩
             have T1 := hide ((unhide T).later b1)
             have F1 := hide ((unhide F).trans (b1.mono (unhide F).size))
             obtain ⟨p0, p1, p2, p3, p4, p5⟩ := unhide CW W1 (unhide F1)
             have D1 := hide (unhide DC W1 (unhide F1) (unhide T1) hsh)
             clear b1)
          | (go_at_call 15
             refine (unhide D1).mono ?_
             rintro r W2 ⟨rfl, h2, k2⟩
             have T2 := hide h2
             have F2 := hide ((unhide F1).trans k2.below)
             clear h2 k2))
        exact ⟨⟨j + 1, N + 1, dDo room e ss, by omega, by omega, by go_num, hide (Nat.succ_le_succ (unhide HNj)), T2, F2⟩, by simp [intOf]; omega⟩
    · have hN2 : N ≤ 200 := by have := unhide HNj; omega
      by_cases hjn : j < n
      · have y1 : (j : Int) < (n : Int) := by omega
        have y2 : ¬ (j : Int) < 200 := by omega
        go_wp2
        go_ret3
        exact ⟨d, M, R, N, ss, rfl, hN2, unhide T, unhide F⟩
      · have y1 : ¬ (j : Int) < (n : Int) := by omega
        go_wp2
        go_ret3
        exact ⟨d, M, R, N, ss, rfl, hN2, unhide T, unhide F⟩
end Go.Proofs.Ytghdiemihceaoaa
