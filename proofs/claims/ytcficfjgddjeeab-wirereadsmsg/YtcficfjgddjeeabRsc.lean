/- The document's answers of layer 2, their scan: fail, num, end; add. -/
import Derived.Test.YtcficfjgddjeeabRfn
import Derived.Test.YtcficfjgddjeeabRhard
namespace Go.Proofs.Ytcficfjgddjeeab
open Go.ChangeShapes Go.WideShapes Go.ChangeAt Go.RowKit

/-- A scan: its block, the bytes, the place, the fault. -/
structure ScAt (S : Nat) (w : World) (a : Option Addr) (c : Nat) (l : List Nat) (k x : Nat) : Prop where
  blk : w.heap[S]? = some (.cells #[.slice a l.length c, .int .i64 (k : Int), .int .i64 (x : Int)] 64 (0, 0))
  bytes : BytesAt w a l
  low : ∀ b off, 0 < l.length → a = some ⟨b, off, none⟩ → b ≠ S
  le : k ≤ l.length
theorem ScAt.cells {S : Nat} {w : World} {a : Option Addr} {c : Nat} {l : List Nat} {k x : Nat} (h : ScAt S w a c l k x) :
    w.cell? ⟨S, 0, none⟩ = some (.slice a l.length c) ∧ w.cell? ⟨S, 1, none⟩ = some (.int .i64 (k : Int)) ∧ w.cell? ⟨S, 2, none⟩ = some (.int .i64 (x : Int)) ∧ w.frozen? ⟨S, 1, none⟩ = false ∧ w.frozen? ⟨S, 2, none⟩ = false := by
  refine ⟨?_, ?_, ?_, ?_, ?_⟩
  · rw [cell_of_row _ _ _ _ _ _ h.blk]; rfl
  · rw [cell_of_row _ _ _ _ _ _ h.blk]; rfl
  · rw [cell_of_row _ _ _ _ _ _ h.blk]; rfl
  · simp [World.frozen?, h.blk]
  · simp [World.frozen?, h.blk]
theorem ScAt.set {S : Nat} {w w' : World} {a : Option Addr} {c : Nat} {l : List Nat} {k x k' x' : Nat} (h : ScAt S w a c l k x) (hg : w.grownBy w' (some S)) (hb : w'.heap[S]? = some (.cells #[.slice a l.length c, .int .i64 (k' : Int), .int .i64 (x' : Int)] 64 (0, 0))) (hk : k' ≤ l.length) : ScAt S w' a c l k' x' := by
  refine ⟨hb, ⟨h.bytes.lt, fun i hi => ?_⟩, h.low, hk⟩
  obtain ⟨b, off, h1, h2⟩ := h.bytes.cell i hi
  refine ⟨b, off, h1, ?_⟩
  rw [hg.cell_far ⟨b, off + i, none⟩ (World.block_lt_of_cell? _ _ h2) (by simpa using h.low b off (by omega) h1)]
  exact h2
theorem ScAt.place {S : Nat} {w : World} {a : Option Addr} {c : Nat} {l : List Nat} {k x : Nat} (h : ScAt S w a c l k x) (k' : Nat) (hk : k' ≤ l.length) : ScAt S (w.setCell ⟨S, 1, none⟩ (.int .i64 (k' : Int))) a c l k' x := by
  refine h.set (grown_set _ _ _ _) ?_ hk
  have := heap_setCell_same w S 1 _ 64 (.int .i64 (k' : Int)) h.blk
  simpa using this
theorem ScAt.fault {S : Nat} {w : World} {a : Option Addr} {c : Nat} {l : List Nat} {k x : Nat} (h : ScAt S w a c l k x) (x' : Nat) : ScAt S (w.setCell ⟨S, 2, none⟩ (.int .i64 (x' : Int))) a c l k x' := by
  refine h.set (grown_set _ _ _ _) ?_ h.le
  have := heap_setCell_same w S 2 _ 64 (.int .i64 (x' : Int)) h.blk
  simpa using this
theorem ScAt.drewN {S : Nat} {w : World} {a : Option Addr} {c : Nat} {l : List Nat} {k x : Nat} (h : ScAt S w a c l k x) (n : Nat) : ScAt S (w.drewN n) a c l k x := ⟨h.blk, ⟨h.bytes.lt, h.bytes.cell⟩, h.low, h.le⟩

theorem fail_calls (S : Nat) (a : Option Addr) (c : Nat) (l : List Nat) (k y : Nat) (w : World) (h : ScAt S w a c l k 0) :
    Calls Try.prog 36 #[.pointer (some ⟨S, 0, none⟩), .int .i64 (y : Int)] w fun e w' => e = .returned (.tuple #[]) ∧ ScAt S w' a c l k y ∧ w.grownBy w' (some S) := by
  obtain ⟨c0, c1, c2, f1, f2⟩ := h.cells
  have H := hide h
  clear h
  go_enter Try.func36, Try.ntmps36
  go_wp2
  go_end0
  exact ⟨rfl, (unhide H).fault y, grown_set _ _ _ _⟩

theorem refTake_at (a : Option Addr) (M c : Nat) (l : List Nat) (k : Nat) (kk : Int) (V : Value) (w : World) (hV : takeV l k = V) (hM : l.length = M) (hkk : kk = (k : Int)) (hl : l.length ≤ 140737488355328) (hk : k ≤ l.length) (hb : BytesAt w a l) :
    Calls Try.prog 59 #[.slice a M c, .int .i64 kk] w fun e w' => e = .returned V ∧ w' = w := by
  subst hV
  exact refTake_calls a M c l k kk w hM hkk hl hk hb
/-- What num does to a scan: the answer, the place, the fault. -/
def numS (l : List Nat) (least k x : Nat) : Nat × Nat × Nat :=
  if x ≠ 0 then (0, k, x) else
  match takeE l k with
  | .error y => (0, k, y)
  | .ok (n, k2) => if n < least then (0, k, 4) else (n, k2, 0)
theorem takeF_le (l : List Nat) : ∀ (f s m k : Nat), k ≤ l.length → (takeF l f s m k).2.2 ≤ l.length := by
  intro f
  induction f with
  | zero => intro s m k h; exact h
  | succ f ih =>
    intro s m k h
    rw [takeF]
    split
    · exact h
    · repeat' split
      all_goals first | (apply ih; omega) | (show k + 1 ≤ l.length; omega)
theorem takeE_le {l : List Nat} {k n k2 : Nat} (h : takeE l k = .ok (n, k2)) (hk : k ≤ l.length) : k2 ≤ l.length := by
  unfold takeE at h
  split at h
  · simp only [Except.ok.injEq, Prod.mk.injEq] at h
    rw [← h.2]
    exact takeF_le l 6 0 0 k hk
  · cases h
set_option maxHeartbeats 1000000 in
theorem num_calls (S : Nat) (a : Option Addr) (c : Nat) (l : List Nat) (least k x : Nat) (w : World) (h : ScAt S w a c l k x) (hl : l.length ≤ 140737488355328) :
    Calls Try.prog 35 #[.pointer (some ⟨S, 0, none⟩), .int .i64 (least : Int)] w fun e w' => e = .returned (.int .i64 ((numS l least k x).1 : Int)) ∧ ScAt S w' a c l (numS l least k x).2.1 (numS l least k x).2.2 ∧ w.grownBy w' (some S) := by
  obtain ⟨c0, c1, c2, f1, f2⟩ := h.cells
  have H := hide h
  have HL := hide hl
  clear h hl
  by_cases hx : x = 0
  · subst hx
    cases ht : takeE l k with
    | error y =>
      have hy := takeE_pos ht
      have hV := hide (show takeV l k = .tuple #[.int .i64 0, .int .i64 0, .int .i64 (y : Int)] by
        unfold takeE at ht
        split at ht
        · cases ht
        · next h0 => cases ht; rw [takeV, if_neg h0])
      have hN := hide (show numS l least k 0 = (0, k, y) by simp only [numS, ht]; rfl)
      have hy0 : ¬ (y : Int) = 0 := by omega
      clear ht hy
      go_enter Try.func35, Try.ntmps35
      go_wp2_with fail
      go_quiet ((go_at_call 59; refine Calls.quiet_of_same (refTake_at a l.length c l k _ _ _ (unhide hV) rfl rfl (unhide HL) (unhide H).le ((unhide H).drewN _).bytes)))
      go_wp2_with fail
      refine (fail_calls S a c l k y _ ((unhide H).drewN _)).mono ?_
      rintro e w1 ⟨rfl, hs1, hg1⟩
      go_wp2
      go_ret
      rw [unhide hN]
      exact ⟨rfl, hs1, grown_trans (grown_drewN _ _ _) hg1⟩
    | ok p =>
      obtain ⟨n, k2⟩ := p
      have hV := hide (show takeV l k = .tuple #[.int .i64 (n : Int), .int .i64 (k2 : Int), .int .i64 0] by
        unfold takeE at ht
        split at ht
        · next h0 =>
          simp only [Except.ok.injEq, Prod.mk.injEq] at ht
          rw [takeV, if_pos h0, ht.1, ht.2]
        · cases ht)
      have HK := hide (takeE_le ht (unhide H).le)
      by_cases hn : n < least
      · have hN := hide (show numS l least k 0 = (0, k, 4) by simp only [numS, ht, if_pos hn]; rfl)
        clear ht
        go_enter Try.func35, Try.ntmps35
        go_wp2_with fail
        go_quiet ((go_at_call 59; refine Calls.quiet_of_same (refTake_at a l.length c l k _ _ _ (unhide hV) rfl rfl (unhide HL) (unhide H).le ((unhide H).drewN _).bytes)))
        go_wp2_with fail
        refine (fail_calls S a c l k 4 _ ((unhide H).drewN _)).mono ?_
        rintro e w1 ⟨rfl, hs1, hg1⟩
        go_wp2
        go_ret
        rw [unhide hN]
        exact ⟨rfl, hs1, grown_trans (grown_drewN _ _ _) hg1⟩
      · have hN := hide (show numS l least k 0 = (n, k2, 0) by simp only [numS, ht, if_neg hn]; rfl)
        clear ht
        go_enter Try.func35, Try.ntmps35
        go_wp2_with fail
        go_quiet ((go_at_call 59; refine Calls.quiet_of_same (refTake_at a l.length c l k _ _ _ (unhide hV) rfl rfl (unhide HL) (unhide H).le ((unhide H).drewN _).bytes)))
        go_wp2
        go_ret
        rw [unhide hN]
        exact ⟨rfl, ((unhide H).drewN _).place k2 (unhide HK), grown_trans (grown_drewN _ _ _) (grown_set _ _ _ _)⟩
  · have hN := hide (show numS l least k x = (0, k, x) by rw [numS, if_pos hx])
    have hx0 : ¬ (x : Int) = 0 := by omega
    clear hx
    go_enter Try.func35, Try.ntmps35
    go_wp2
    go_ret
    rw [unhide hN]
    exact ⟨rfl, unhide H, grown_refl _ _⟩
/-- What end does to a scan's fault. -/
def endS (l : List Nat) (k x : Nat) : Nat := if x = 0 ∧ k < l.length then 4 else x
set_option maxHeartbeats 1000000 in
theorem scanEnd_calls (S : Nat) (a : Option Addr) (c : Nat) (l : List Nat) (k x : Nat) (w : World) (h : ScAt S w a c l k x) :
    Calls Try.prog 39 #[.pointer (some ⟨S, 0, none⟩)] w fun e w' => e = .returned (.tuple #[]) ∧ ScAt S w' a c l k (endS l k x) ∧ w.grownBy w' (some S) := by
  obtain ⟨c0, c1, c2, f1, f2⟩ := h.cells
  have H := hide h
  clear h
  by_cases hx : x = 0
  · subst hx
    by_cases hk : k < l.length
    · have hE := hide (show endS l k 0 = 4 by rw [endS, if_pos ⟨rfl, hk⟩])
      have hk' : (k : Int) < (l.length : Int) := by omega
      go_enter Try.func39, Try.ntmps39
      go_wp2_with fail
      go_quiet (fail)
      go_wp2_with fail
      refine (fail_calls S a c l k 4 _ ((unhide H).drewN _)).mono ?_
      rintro e w1 ⟨rfl, hs1, hg1⟩
      go_wp2
      go_end0
      rw [unhide hE]
      exact ⟨rfl, hs1, grown_trans (grown_drewN _ _ _) hg1⟩
    · have hE := hide (show endS l k 0 = 0 by rw [endS, if_neg (fun h => hk h.2)])
      have hk' : decide ((k : Int) < (l.length : Int)) = false := by simp; omega
      go_enter Try.func39, Try.ntmps39
      go_wp2_with fail
      go_quiet (fail)
      go_wp2
      go_end0
      rw [unhide hE]
      exact ⟨rfl, (unhide H).drewN _, grown_drewN _ _ _⟩
  · have hE := hide (show endS l k x = x by rw [endS, if_neg (fun h => hx h.1)])
    have hx0 : ((x : Int) == 0) = false := by simp; omega
    clear hx
    go_enter Try.func39, Try.ntmps39
    go_wp2_with fail
    go_quiet (fail)
    go_wp2
    go_end0
    rw [unhide hE]
    exact ⟨rfl, (unhide H).drewN _, grown_drewN _ _ _⟩
end Go.Proofs.Ytcficfjgddjeeab
