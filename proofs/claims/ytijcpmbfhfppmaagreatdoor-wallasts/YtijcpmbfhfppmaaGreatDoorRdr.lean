/- Readers of wire: bytes that are gone through behind a pointer; giving up. -/
import Derived.Test.YtijcpmbfhfppmaaGreatDoorWir
import Derived.Laws.Pointers
namespace Go.Proofs.YtijcpmbfhfppmaaGreatDoor
open Go.ChangeShapes Go.WideShapes Go.ChangeAt Go.RowKit

/-- The panic by which a reader gives up. -/
abbrev given (e : Nat) : List PanicEntry := [{ v := .iface 259 (.agg #[.int .i64 (e : Int)]), recovered := false }]
theorem giveUp_calls (e : Nat) (w : World) : Calls Tryz.prog 231 #[.int .i64 (e : Int)] w fun en w' => en = .panicked (given e) ∧ w' = w := by
  go_enter Tryz.func231, Tryz.ntmps231
  go_wp2
  exact ⟨rfl, rfl, rfl⟩

/-- A reader of bytes: its block, the bytes, the place. -/
structure RdAt (R : Nat) (w : World) (a : Option Addr) (c : Nat) (l : List Nat) (k : Nat) : Prop where
  blk : w.heap[R]? = some (.cells #[.slice a l.length c, .int .i64 (k : Int)] 242 (0, 0))
  bytes : BytesAt w a l
  low : ∀ b off, 0 < l.length → a = some ⟨b, off, none⟩ → b ≠ R
  le : k ≤ l.length

theorem RdAt.c0 {R : Nat} {w : World} {a : Option Addr} {c : Nat} {l : List Nat} {k : Nat} (h : RdAt R w a c l k) : w.cell? ⟨R, 0, none⟩ = some (.slice a l.length c) := by
  rw [cell_of_row w R 0 _ _ _ h.blk]; rfl
theorem RdAt.c1 {R : Nat} {w : World} {a : Option Addr} {c : Nat} {l : List Nat} {k : Nat} (h : RdAt R w a c l k) : w.cell? ⟨R, 1, none⟩ = some (.int .i64 (k : Int)) := by
  rw [cell_of_row w R 1 _ _ _ h.blk]; rfl
theorem RdAt.f1 {R : Nat} {w : World} {a : Option Addr} {c : Nat} {l : List Nat} {k : Nat} (h : RdAt R w a c l k) : w.frozen? ⟨R, 1, none⟩ = false := by
  simp [World.frozen?, h.blk]
/-- The place moves; other blocks than the reader's stay. -/
theorem RdAt.moved {R : Nat} {w : World} {a : Option Addr} {c : Nat} {l : List Nat} {k : Nat} (h : RdAt R w a c l k) (k' : Nat) (hk : k' ≤ l.length) : RdAt R (w.setCell ⟨R, 1, none⟩ (.int .i64 (k' : Int))) a c l k' := by
  have hg := grown_set w R 1 (.int .i64 (k' : Int))
  refine ⟨?_, ?_, h.low, hk⟩
  · have := heap_setCell_same w R 1 _ 242 (.int .i64 (k' : Int)) h.blk
    simpa using this
  · refine ⟨h.bytes.lt, fun i hi => ?_⟩
    obtain ⟨b, off, h1, h2⟩ := h.bytes.cell i hi
    refine ⟨b, off, h1, ?_⟩
    rw [hg.cell_far ⟨b, off + i, none⟩ (World.block_lt_of_cell? _ _ h2) (by simpa using h.low b off (by omega) h1)]
    exact h2
theorem RdAt.drewN {R : Nat} {w : World} {a : Option Addr} {c : Nat} {l : List Nat} {k : Nat} (h : RdAt R w a c l k) (n : Nat) : RdAt R (w.drewN n) a c l k := ⟨h.blk, ⟨h.bytes.lt, h.bytes.cell⟩, h.low, h.le⟩
theorem grown_drewN (w : World) (n : Nat) (row : Option Nat) : w.grownBy (w.drewN n) row := ⟨rfl, rfl, rfl, Nat.le_refl _, fun _ _ _ => rfl⟩

theorem one_short (R : Nat) (a : Option Addr) (c : Nat) (l : List Nat) (k : Nat) (w : World) (h : RdAt R w a c l k) (hk : k = l.length) :
    Calls Tryz.prog 230 #[.pointer (some ⟨R, 0, none⟩)] w fun e w' => e = .panicked (given 3) ∧ RdAt R w' a c l k ∧ w.grownBy w' (some R) := by
  have c0 := h.c0
  have c1 := h.c1
  subst hk
  have H := hide h
  clear h
  go_enter Tryz.func230, Tryz.ntmps230
  go_wp2_with fail
  go_quiet (fail)
  go_wp2_with fail
  refine (giveUp_calls 3 _).mono ?_
  rintro e w' ⟨rfl, rfl⟩
  go_wp2
  exact ⟨rfl, rfl, (unhide H).drewN _, grown_drewN _ _ _⟩
theorem one_ok (R : Nat) (a : Option Addr) (c : Nat) (l : List Nat) (k : Nat) (w : World) (h : RdAt R w a c l k) (hk : k < l.length) (hl : l.length ≤ maxLen) :
    Calls Tryz.prog 230 #[.pointer (some ⟨R, 0, none⟩)] w fun e w' => e = .returned (.int .u8 ((l.getD k 0 : Nat) : Int)) ∧ RdAt R w' a c l (k + 1) ∧ w.grownBy w' (some R) := by
  have c0 := h.c0
  have c1 := h.c1
  have f1 := h.f1
  obtain ⟨b, off, rfl, hc⟩ := h.bytes.cell k hk
  have H := hide h
  have H1 := hide hk
  unfold maxLen at hl
  clear h
  generalize l.getD k 0 = x at *
  have hne : ¬ k = l.length := by omega
  go_enter Tryz.func230, Tryz.ntmps230
  go_wp2_with fail
  go_quiet (fail)
  go_wp2_with fail
  go_quiet (fail)
  go_wp2
  go_ret
  exact ⟨rfl, ((unhide H).drewN _).moved (k + 1) (unhide H1), grown_trans (grown_drewN _ _ _) (grown_set _ _ _ _)⟩
theorem end_ok (R : Nat) (a : Option Addr) (c : Nat) (l : List Nat) (k : Nat) (w : World) (h : RdAt R w a c l k) (hk : k = l.length) :
    Calls Tryz.prog 214 #[.pointer (some ⟨R, 0, none⟩)] w fun e w' => e = .returned (.tuple #[]) ∧ RdAt R w' a c l k ∧ w.grownBy w' (some R) := by
  have c0 := h.c0
  have c1 := h.c1
  subst hk
  have H := hide h
  clear h
  go_enter Tryz.func214, Tryz.ntmps214
  go_wp2_with fail
  go_quiet (fail)
  go_wp2
  go_end0
  exact ⟨rfl, (unhide H).drewN _, grown_drewN _ _ _⟩
theorem end_more (R : Nat) (a : Option Addr) (c : Nat) (l : List Nat) (k : Nat) (w : World) (h : RdAt R w a c l k) (hk : k < l.length) :
    Calls Tryz.prog 214 #[.pointer (some ⟨R, 0, none⟩)] w fun e w' => e = .panicked (given 4) ∧ RdAt R w' a c l k ∧ w.grownBy w' (some R) := by
  have c0 := h.c0
  have c1 := h.c1
  have H := hide h
  clear h
  go_enter Tryz.func214, Tryz.ntmps214
  go_wp2_with fail
  go_quiet (fail)
  go_wp2_with fail
  refine (giveUp_calls 4 _).mono ?_
  rintro e w' ⟨rfl, rfl⟩
  go_wp2
  exact ⟨rfl, rfl, (unhide H).drewN _, grown_drewN _ _ _⟩
end Go.Proofs.YtijcpmbfhfppmaaGreatDoor
