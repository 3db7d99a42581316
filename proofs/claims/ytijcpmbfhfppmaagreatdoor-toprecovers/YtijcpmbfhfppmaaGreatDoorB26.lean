/- Logs: Open. -/
import Derived.Test.YtijcpmbfhfppmaaGreatDoorB25
import Derived.Test.YtijcpmbfhfppmaaGreatDoorB20
import Derived.Test.YtijcpmbfhfppmaaGreatDoorRows
import Derived.Lib.LaidTab
import Derived.Lib.LaidU8
import Derived.MakeChecks
import Derived.Test.YtijcpmbfhfppmaaGreatDoorB18
import Derived.Lib.SmallJoins
section
namespace Go.Proofs.YtijcpmbfhfppmaaGreatDoor
open Go.ChangeShapes Go.WideShapes Go.ChangeAt Go.RowKit
set_option linter.unusedVariables false

/-- A log that is taken from its file, or none. -/
def wTaken (r : Nat × Ds × Wc × Nat) : Nat × Ds × Option (Wc × Nat) := if r.1 ≠ 0 then (r.1, r.2.1, none) else (0, r.2.1, some (r.2.2.1, r.2.2.2))
/-- Open: the error, the disk, and the log's content with its file's number. -/
def wOpen (room : Nat) (ss : Ds) : Nat × Ds × Option (Wc × Nat) :=
  if greatW (ss.map (·.1)) 0 ≠ 0 then wTaken (wLoad (greatW (ss.map (·.1)) 0) wc0 (remO (greatW (ss.map (·.1)) 0) (ss.map (·.1)) ss))
  else if (wAnew room 0 (allB wc0) (remO 0 (ss.map (·.1)) ss)).1 ≠ 0 then ((wAnew room 0 (allB wc0) (remO 0 (ss.map (·.1)) ss)).1, (wAnew room 0 (allB wc0) (remO 0 (ss.map (·.1)) ss)).2, none)
  else wTaken (wLoad 1 wc0 (wAnew room 0 (allB wc0) (remO 0 (ss.map (·.1)) ss)).2)
theorem wc0_ok : WOk wc0 := ⟨by simp [wc0], by simp [wc0], by simp [wc0], by simp [wc0], by simp [wc0]⟩
/-- How Open ends. -/
def OpEnd (Av : Nat → Prop) (base d M room N : Nat) (w : World) (r : Nat × Ds × Option (Wc × Nat)) (e : Ending) (w' : World) : Prop :=
  Asd Av base w w' ∧ match r.2.2 with
  | none => e = .returned (.tuple #[.pointer none, .int .i64 (r.1 : Int)]) ∧ DAt Av base w' d M room N r.2.1
  | some (c, n) => ∃ L ep ec hs, e = .returned (.tuple #[.pointer (some ⟨L, 0, none⟩), .int .i64 0]) ∧ WAt Av base w' L d M room N r.2.1 c n ep ec hs ∧ w.heap.size ≤ L
section
variable {Av : Nat → Prop} {base : Nat} {w w' : World} {L d M room N N' : Nat} {ss ss' : Ds} {c : Wc} {n : Nat} {ep : Option Addr} {ec : Nat} {hs : List (Option Addr × Nat)}
/-- A new log over a disk. -/
theorem DAt.log (h : DAt Av base w d M room N ss) (ht : ∃ w0 : World, w0.heap.size = base ∧ Tz w0 ∧ Below base w0 w) (n : Nat) (hn : n ≤ 1099511627776) :
    WAt Av base (w.alloc (.cells #[.pointer (some ⟨d, 0, none⟩), .int .i64 0, .int .i64 0, .int .i64 0, .int .i64 0, .slice none 0 0, .int .i64 (n : Int)] 96)) w.heap.size d M room N ss wc0 n none 0 [] := by
  have u : Below w.heap.size w (w.alloc (.cells #[.pointer (some ⟨d, 0, none⟩), .int .i64 0, .int .i64 0, .int .i64 0, .int .i64 0, .slice none 0 0, .int .i64 (n : Int)] 96)) := (Below.refl _ _).alloc (Nat.le_refl _) _
  have hs : (w.alloc (.cells #[.pointer (some ⟨d, 0, none⟩), .int .i64 0, .int .i64 0, .int .i64 0, .int .i64 0, .slice none 0 0, .int .i64 (n : Int)] 96)).heap.size = w.heap.size + 1 := by simp
  have nf : ∀ g, ¬ LFoot none [] g := fun g hg => by
    rcases hg with hg | ⟨x, hx, _⟩
    · cases hg
    · simp at hx
  refine ⟨(h.more u).av (fun g hg => ?_), ⟨heap_new w _⟩, OwnL.ofNil _ _, h.le, fun g hg => ⟨fun e => ?_, nf g⟩, wc0_ok, hn, by simp [wc0], ?_⟩
  · rcases hg with hg | rfl | hg
    · exact .inl hg
    · exact .inr ⟨Nat.le_refl _, by rw [hs]; omega⟩
    · exact absurd hg (nf g)
  · have := h.lt hg
    omega
  · obtain ⟨w0, h1, h2, h3⟩ := ht
    exact ⟨w0, h1, h2, h3.trans (u.mono h.le)⟩
set_option maxRecDepth 20000 in
set_option maxHeartbeats 16000000 in
theorem open_calls (h : DAt Av base w d M room N ss) (ht : ∃ w0 : World, w0.heap.size = base ∧ Tz w0 ∧ Below base w0 w) (hN : N + 2 ≤ 1000000) :
    Calls Tryz.prog 25 #[.pointer (some ⟨d, 0, none⟩)] w (OpEnd Av base d M room (N + 2) w (wOpen room ss)) := by
  have WO := hide (show wOpen room ss = (if greatW (ss.map (·.1)) 0 ≠ 0 then wTaken (wLoad (greatW (ss.map (·.1)) 0) wc0 (remO (greatW (ss.map (·.1)) 0) (ss.map (·.1)) ss))
    else if (wAnew room 0 (allB wc0) (remO 0 (ss.map (·.1)) ss)).1 ≠ 0 then ((wAnew room 0 (allB wc0) (remO 0 (ss.map (·.1)) ss)).1, (wAnew room 0 (allB wc0) (remO 0 (ss.map (·.1)) ss)).2, none)
    else wTaken (wLoad 1 wc0 (wAnew room 0 (allB wc0) (remO 0 (ss.map (·.1)) ss)).2)) from rfl)
  generalize wOpen room ss = wo at *
  have NC := hide (anames_calls h)
  have H := hide h
  have HT := hide ht
  have LN := hide h.len
  have NM := hide h.nmlen
  clear h ht
  go_enter Tryz.func25, Tryz.ntmps25
  go_wp2_with fail
  go_at_call 38
  refine (unhide NC).mono ?_
  rintro e V1 ⟨sp1, n1, k1, rfl, hn1, o1, v1⟩
  have TW := hide (show Tz V1 from by
    obtain ⟨w0, q1, q2, q3⟩ := unhide HT
    exact q2.later (by rw [q1]; exact q3.trans (v1.mono (unhide H).le)))
  have GC := hide (greatest_calls o1 (show (ss.map (·.1)).length = n1 by rw [List.length_map]; exact hn1) (by have := unhide LN; omega) (fun s hs => by
    obtain ⟨x, hx, rfl⟩ := List.mem_map.1 hs
    exact unhide NM x hx) (unhide TW))
  have B1 := hide v1
  clear o1 v1 hn1 NC
  have GL := hide (greatW_le (ss.map (·.1)) 0 (by omega))
  generalize hgw : greatW (ss.map (·.1)) 0 = gw at *
  go_wp2_with fail
  go_at_call 61
  refine (unhide GC).mono ?_
  rintro e V2 ⟨rfl, v2⟩
  have B2 := hide ((unhide B1).trans (v2.mono (unhide B1).size))
  have Z3 := hide (((unhide H).later (unhide B2)).log (let ⟨w0, q1, q2, q3⟩ := unhide HT; ⟨w0, q1, q2, q3.trans ((unhide B2).mono (unhide H).le)⟩) gw (unhide GL))
  have A3 := hide ((show Asd Av base w V2 from Asd.of (fun g hg => (unhide H).lt hg) (unhide H).le (unhide B2)).trans (Asd.of (fun g hg => Nat.lt_of_lt_of_le ((unhide H).lt hg) (unhide B2).size) (Nat.le_trans (unhide H).le (unhide B2).size) ((Below.refl V2.heap.size V2).alloc (Nat.le_refl _) (.cells #[.pointer (some ⟨d, 0, none⟩), .int .i64 0, .int .i64 0, .int .i64 0, .int .i64 0, .slice none 0 0, .int .i64 (gw : Int)] 96))))
  have SL := hide (show w.heap.size ≤ V2.heap.size from (unhide B2).size)
  clear v2 GC
  go_wp2_with fail
  generalize V2.alloc _ = V3 at *
  generalize V2.heap.size = L at *
  have RC := hide (removeOthers_calls (unhide Z3))
  go_wp2_with fail
  go_at_call 62
  refine (unhide RC).mono ?_
  rintro e V4 ⟨rfl, z4, a4⟩
  have Z4 := hide z4
  have A4 := hide ((unhide A3).trans a4)
  clear z4 a4 RC
  obtain ⟨_, c6, _⟩ := (unhide Z4).ptr
  have TE := hide (show ∀ (r : Nat × Ds × Wc × Nat) W, (∃ ep ec hs, WAt Av base W L d M room (N + 2) r.2.1 r.2.2.1 r.2.2.2 ep ec hs) → Asd Av base w W → (r.1 = 0 → OpEnd Av base d M room (N + 2) w (wTaken r) (.returned (.tuple #[.pointer (some ⟨L, 0, none⟩), .int .i64 0])) W) ∧ (r.1 ≠ 0 → OpEnd Av base d M room (N + 2) w (wTaken r) (.returned (.tuple #[.pointer none, .int .i64 (r.1 : Int)])) W) from fun r W hz ha => by
    obtain ⟨ep, ec, hs, z⟩ := hz
    unfold wTaken
    refine ⟨fun h0 => ?_, fun h0 => ?_⟩
    · rw [if_neg (by simp [h0])]
      exact ⟨ha, L, ep, ec, hs, rfl, z, unhide SL⟩
    · rw [if_pos h0]
      exact ⟨ha, rfl, z.dk.av (fun g hg => .inl hg)⟩)
  by_cases h0 : gw = 0
  · subst h0
    rw [if_neg (by simp)] at WO
    have AC := hide (wanew_calls (c2 := wc0) (ep2 := none) (ec2 := 0) (hs2 := []) (unhide Z4) (by omega) (OwnL.ofNil _ _) (fun g hg => by
      rcases hg with hg | ⟨x, hx, _⟩
      · cases hg
      · simp at hx) wc0_ok (by simp [wc0]))
    rw [show (#[.pointer (some ⟨L, 0, none⟩), .agg #[.int .i64 (wc0.bi : Int), .int .i64 (wc0.bt : Int), .int .i64 (wc0.ht : Int), .int .i64 (wc0.hv : Int), .slice none wc0.es.length 0]] : Array Value) = #[.pointer (some ⟨L, 0, none⟩), .agg #[.int .i64 0, .int .i64 0, .int .i64 0, .int .i64 0, .slice none 0 0]] from rfl] at AC
    rw [show ((0 : Nat) : Int) = 0 from rfl] at c6
    generalize wAnew room 0 (allB wc0) (remO 0 (ss.map (·.1)) ss) = r3 at *
    obtain ⟨e3, s3⟩ := r3
    try dsimp only at WO
    try rw [show ((0 : Nat) : Int) = 0 from rfl]
    go_wp2_with fail
    clear c6
    go_at_call 63
    refine (unhide AC).mono ?_
    rintro e V6 ⟨rfl, a6, y6, n6⟩
    have A6 := hide ((unhide A4).trans a6)
    clear a6 AC
    try dsimp only at y6 n6 ⊢
    by_cases h3 : e3 = 0
    · subst h3
      rw [if_neg (by simp)] at WO
      have Z6 := hide ((y6 rfl).2.sub (Bv := Av) (fun g hg => ⟨hg, fun hf => by
        rcases hf with hf | ⟨x, hx, _⟩
        · cases hf
        · simp at hx⟩))
      clear y6 n6
      rw [show ((0 : Nat) : Int) = 0 from rfl]
      have LC := hide (load_calls (unhide Z6) hN)
      rw [Nat.zero_add] at LC
      generalize wLoad 1 wc0 s3 = r5 at *
      obtain ⟨e5, s5, c5, n5⟩ := r5
      go_wp2_with fail
      go_at_call 64
      refine (unhide LC).mono ?_
      rintro e V5 ⟨rfl, z5, a5⟩
      have T5 := hide (unhide TE (e5, s5, c5, n5) V5 z5 ((unhide A6).trans a5))
      clear z5 a5 LC
      dsimp only
      by_cases h5 : e5 = 0
      · subst h5
        have FE := hide ((unhide T5).1 rfl)
        rw [show ((0 : Nat) : Int) = 0 from rfl]
        go_wp2
        go_ret2
        rw [unhide WO]
        exact unhide FE
      · have FE := hide ((unhide T5).2 h5)
        have h5' : ((e5 : Int) == 0) = false := by simp; omega
        have h5'' : ¬ (e5 : Int) = 0 := by omega
        go_wp2
        go_ret2
        rw [unhide WO]
        exact unhide FE
    · rw [if_pos h3] at WO
      have h3' : ((e3 : Int) == 0) = false := by simp; omega
      have h3'' : ¬ (e3 : Int) = 0 := by omega
      have FE := hide (show OpEnd Av base d M room (N + 2) w wo (.returned (.tuple #[.pointer none, .int .i64 (e3 : Int)])) V6 by
        rw [unhide WO]
        exact ⟨unhide A6, rfl, ((n6 h3).dk.mono (by omega) hN).av (fun g hg => .inl hg)⟩)
      clear y6 n6
      go_wp2
      go_ret2
      exact unhide FE
  · rw [if_pos h0] at WO
    have h0' : ((gw : Int) == 0) = false := by simp; omega
    have h0'' : ¬ (gw : Int) = 0 := by omega
    have LC := hide (load_calls ((unhide Z4).monoN (N' := N + 1) (by omega) (by omega)) hN)
    generalize wLoad gw wc0 (remO gw (ss.map (·.1)) ss) = r5 at *
    obtain ⟨e5, s5, c5, n5⟩ := r5
    go_wp2_with fail
    go_at_call 64
    refine (unhide LC).mono ?_
    rintro e V5 ⟨rfl, z5, a5⟩
    have T5 := hide (unhide TE (e5, s5, c5, n5) V5 z5 ((unhide A4).trans a5))
    clear z5 a5 LC
    dsimp only
    by_cases h5 : e5 = 0
    · subst h5
      have FE := hide ((unhide T5).1 rfl)
      rw [show ((0 : Nat) : Int) = 0 from rfl]
      go_wp2
      go_ret2
      rw [unhide WO]
      exact unhide FE
    · have FE := hide ((unhide T5).2 h5)
      have h5' : ((e5 : Int) == 0) = false := by simp; omega
      have h5'' : ¬ (e5 : Int) = 0 := by omega
      go_wp2
      go_ret2
      rw [unhide WO]
      exact unhide FE
end
end Go.Proofs.YtijcpmbfhfppmaaGreatDoor
end
/- A log that is none. -/
section
namespace Go.Proofs.YtijcpmbfhfppmaaGreatDoor
open Go.ChangeShapes Go.WideShapes Go.ChangeAt Go.RowKit
set_option linter.unusedVariables false
set_option maxRecDepth 20000

theorem openN_calls (w : World) : Calls Tryz.prog 25 #[.pointer none] w fun e w' => e = .returned (.tuple #[.pointer none, .int .i64 1]) ∧ Below w.heap.size w w' := by
  have B0 := hide (Below.refl w.heap.size w)
  go_enter Tryz.func25, Tryz.ntmps25
  go_wp2
  go_ret2
  exact ⟨rfl, unhide B0⟩
theorem appendN_calls (w : World) (v : Value) : Calls Tryz.prog 27 #[.pointer none, v] w fun e w' => e = .returned (.int .i64 1) ∧ Below w.heap.size w w' := by
  have B0 := hide (Below.refl w.heap.size w)
  go_enter Tryz.func27, Tryz.ntmps27
  go_wp2
  go_ret
  exact ⟨rfl, unhide B0⟩
theorem syncN_calls (w : World) : Calls Tryz.prog 29 #[.pointer none] w fun e w' => e = .returned (.int .i64 1) ∧ Below w.heap.size w w' := by
  have B0 := hide (Below.refl w.heap.size w)
  go_enter Tryz.func29, Tryz.ntmps29
  go_wp2
  go_ret
  exact ⟨rfl, unhide B0⟩
theorem compactN_calls (w : World) (i : Int) : Calls Tryz.prog 30 #[.pointer none, .int .i64 i] w fun e w' => e = .returned (.int .i64 1) ∧ Below w.heap.size w w' := by
  have B0 := hide (Below.refl w.heap.size w)
  go_enter Tryz.func30, Tryz.ntmps30
  go_wp2
  go_ret
  exact ⟨rfl, unhide B0⟩
theorem lastN_calls (w : World) : Calls Tryz.prog 39 #[.pointer none] w fun e w' => e = .returned (.int .i64 0) ∧ Below w.heap.size w w' := by
  have B0 := hide (Below.refl w.heap.size w)
  go_enter Tryz.func39, Tryz.ntmps39
  go_wp2
  go_ret
  exact ⟨rfl, unhide B0⟩
theorem termN_calls (w : World) (i : Int) : Calls Tryz.prog 19 #[.pointer none, .int .i64 i] w fun e w' => e = .returned (.tuple #[.int .i64 0, .bool false]) ∧ Below w.heap.size w w' := by
  have B0 := hide (Below.refl w.heap.size w)
  go_enter Tryz.func19, Tryz.ntmps19
  go_wp2
  go_ret2
  exact ⟨rfl, unhide B0⟩
theorem entriesN_calls (w : World) (i j : Int) : Calls Tryz.prog 22 #[.pointer none, .int .i64 i, .int .i64 j] w fun e w' => e = .returned (.slice none 0 0) ∧ Below w.heap.size w w' := by
  have B0 := hide (Below.refl w.heap.size w)
  go_enter Tryz.func22, Tryz.ntmps22
  go_wp2
  go_ret
  exact ⟨rfl, unhide B0⟩
theorem fileN_calls (w : World) : Calls Tryz.prog 34 #[.pointer none] w fun e w' => e = .returned (.string ⟨#[]⟩) ∧ Below w.heap.size w w' := by
  have B0 := hide (Below.refl w.heap.size w)
  go_enter Tryz.func34, Tryz.ntmps34
  go_wp2
  go_ret
  exact ⟨rfl, unhide B0⟩
theorem setHardN_calls (w : World) (t v : Int) : Calls Tryz.prog 28 #[.pointer none, .agg #[.int .i64 t, .int .i64 v]] w fun e w' => e = .returned (.int .i64 1) ∧ Below w.heap.size w w' := by
  have B0 := hide (show Below w.heap.size w (w.alloc (.cells #[.int .i64 t, .int .i64 v] 29)) from (Below.refl _ _).alloc (Nat.le_refl _) _)
  go_enter Tryz.func28, Tryz.ntmps28
  go_wp2
  go_ret
  exact ⟨rfl, unhide B0⟩
theorem resetN_calls (w : World) (t v : Int) : Calls Tryz.prog 31 #[.pointer none, .agg #[.int .i64 t, .int .i64 v]] w fun e w' => e = .returned (.int .i64 1) ∧ Below w.heap.size w w' := by
  have B0 := hide (show Below w.heap.size w (w.alloc (.cells #[.int .i64 t, .int .i64 v] 31)) from (Below.refl _ _).alloc (Nat.le_refl _) _)
  go_enter Tryz.func31, Tryz.ntmps31
  go_wp2
  go_ret
  exact ⟨rfl, unhide B0⟩
theorem hardN_calls (w : World) : Calls Tryz.prog 40 #[.pointer none] w fun e w' => e = .returned (.agg #[.int .i64 0, .int .i64 0]) ∧ Below w.heap.size w w' := by
  have X1 := heap_new w (.cells #[.int .i64 0, .int .i64 0] 29)
  have B0 := hide (show Below w.heap.size w (w.alloc (.cells #[.int .i64 0, .int .i64 0] 29)) from (Below.refl _ _).alloc (Nat.le_refl _) _)
  have x0 : (w.alloc (.cells #[.int .i64 0, .int .i64 0] 29)).cell? ⟨w.heap.size, 0, none⟩ = some (.int .i64 0) := box_cell X1 0 _ rfl
  have x1 : (w.alloc (.cells #[.int .i64 0, .int .i64 0] 29)).cell? ⟨w.heap.size, 1, none⟩ = some (.int .i64 0) := box_cell X1 1 _ rfl
  clear X1
  go_enter Tryz.func40, Tryz.ntmps40
  go_wp2
  refine bodyPost_ret (v := .agg #[.int .i64 0, .int .i64 0]) (by simp [results, Tryz.results40, go_sem, x0, x1]) rfl ⟨rfl, unhide B0⟩
theorem baseN_calls (w : World) : Calls Tryz.prog 41 #[.pointer none] w fun e w' => e = .returned (.agg #[.int .i64 0, .int .i64 0]) ∧ Below w.heap.size w w' := by
  have X1 := heap_new w (.cells #[.int .i64 0, .int .i64 0] 31)
  have B0 := hide (show Below w.heap.size w (w.alloc (.cells #[.int .i64 0, .int .i64 0] 31)) from (Below.refl _ _).alloc (Nat.le_refl _) _)
  have x0 : (w.alloc (.cells #[.int .i64 0, .int .i64 0] 31)).cell? ⟨w.heap.size, 0, none⟩ = some (.int .i64 0) := box_cell X1 0 _ rfl
  have x1 : (w.alloc (.cells #[.int .i64 0, .int .i64 0] 31)).cell? ⟨w.heap.size, 1, none⟩ = some (.int .i64 0) := box_cell X1 1 _ rfl
  clear X1
  go_enter Tryz.func41, Tryz.ntmps41
  go_wp2
  refine bodyPost_ret (v := .agg #[.int .i64 0, .int .i64 0]) (by simp [results, Tryz.results41, go_sem, x0, x1]) rfl ⟨rfl, unhide B0⟩
section
variable {Av : Nat → Prop} {base : Nat} {w w' : World} {L d M room N N' : Nat} {ss ss' : Ds} {c : Wc} {n : Nat} {ep : Option Addr} {ec : Nat} {hs : List (Option Addr × Nat)}
theorem whard_calls (z : WAt Av base w L d M room N ss c n ep ec hs) : Calls Tryz.prog 40 #[.pointer (some ⟨L, 0, none⟩)] w fun e w' => e = .returned (.agg #[.int .i64 (c.ht : Int), .int .i64 (c.hv : Int)]) ∧ Below w.heap.size w w' := by
  have U0 := (Below.refl w.heap.size w).alloc (Nat.le_refl _) (.cells #[.int .i64 0, .int .i64 0] 29)
  have z1 := z.later U0
  have l3 : (w.alloc (.cells #[.int .i64 0, .int .i64 0] 29)).cell? ⟨L, 3, none⟩ = some (.int .i64 (c.ht : Int)) := box_cell z1.lg.row 3 _ rfl
  have l4 : (w.alloc (.cells #[.int .i64 0, .int .i64 0] 29)).cell? ⟨L, 4, none⟩ = some (.int .i64 (c.hv : Int)) := box_cell z1.lg.row 4 _ rfl
  have X0 := heap_new w (.cells #[.int .i64 0, .int .i64 0] 29)
  have f0 := froz_of X0 0
  have f1 := froz_of X0 1
  have y0 : (w.alloc (.cells #[.int .i64 0, .int .i64 0] 29)).cell? ⟨w.heap.size, 0, none⟩ = some (.int .i64 0) := box_cell X0 0 _ rfl
  have y1 : (w.alloc (.cells #[.int .i64 0, .int .i64 0] 29)).cell? ⟨w.heap.size, 1, none⟩ = some (.int .i64 0) := box_cell X0 1 _ rfl
  have BF := hide ((Below.refl w.heap.size w).alloc (Nat.le_refl _) (.cells #[.int .i64 (c.ht : Int), .int .i64 (c.hv : Int)] 29))
  clear z z1 U0 X0
  go_enter Tryz.func40, Tryz.ntmps40
  go_wp2
  refine bodyPost_ret (v := .agg #[.int .i64 (c.ht : Int), .int .i64 (c.hv : Int)]) (by simp [results, Tryz.results40, go_sem]) rfl ⟨rfl, unhide BF⟩
theorem wbase_calls (z : WAt Av base w L d M room N ss c n ep ec hs) : Calls Tryz.prog 41 #[.pointer (some ⟨L, 0, none⟩)] w fun e w' => e = .returned (.agg #[.int .i64 (c.bi : Int), .int .i64 (c.bt : Int)]) ∧ Below w.heap.size w w' := by
  have U0 := (Below.refl w.heap.size w).alloc (Nat.le_refl _) (.cells #[.int .i64 0, .int .i64 0] 31)
  have z1 := z.later U0
  have l3 : (w.alloc (.cells #[.int .i64 0, .int .i64 0] 31)).cell? ⟨L, 1, none⟩ = some (.int .i64 (c.bi : Int)) := box_cell z1.lg.row 1 _ rfl
  have l4 : (w.alloc (.cells #[.int .i64 0, .int .i64 0] 31)).cell? ⟨L, 2, none⟩ = some (.int .i64 (c.bt : Int)) := box_cell z1.lg.row 2 _ rfl
  have X0 := heap_new w (.cells #[.int .i64 0, .int .i64 0] 31)
  have f0 := froz_of X0 0
  have f1 := froz_of X0 1
  have y0 : (w.alloc (.cells #[.int .i64 0, .int .i64 0] 31)).cell? ⟨w.heap.size, 0, none⟩ = some (.int .i64 0) := box_cell X0 0 _ rfl
  have y1 : (w.alloc (.cells #[.int .i64 0, .int .i64 0] 31)).cell? ⟨w.heap.size, 1, none⟩ = some (.int .i64 0) := box_cell X0 1 _ rfl
  have BF := hide ((Below.refl w.heap.size w).alloc (Nat.le_refl _) (.cells #[.int .i64 (c.bi : Int), .int .i64 (c.bt : Int)] 31))
  clear z z1 U0 X0
  go_enter Tryz.func41, Tryz.ntmps41
  go_wp2
  refine bodyPost_ret (v := .agg #[.int .i64 (c.bi : Int), .int .i64 (c.bt : Int)]) (by simp [results, Tryz.results41, go_sem]) rfl ⟨rfl, unhide BF⟩
end
end Go.Proofs.YtijcpmbfhfppmaaGreatDoor
end
/- Logs: live, plainly. -/
section
namespace Go.Proofs.YtijcpmbfhfppmaaGreatDoor
open Go.ChangeShapes Go.WideShapes Go.ChangeAt Go.RowKit
set_option linter.unusedVariables false
set_option maxRecDepth 100000

def lv1 : Ds := (wOpen 1000 []).2.1
def lvc : Wc := ⟨0, 0, 0, 0, [(1, 2, 1, [])]⟩
def lv2 : Ds := (wAppend 1000 1 wc0 [(1, 2, 1, [])] lv1).2.1
def lv3 : Ds := (dSync (walNm 1) lv2).2
def lv4 : Ds := (wHard 1000 1 lvc 3 1 lv3).2.1
def lv5 : Ds := crashS [] 0 lv4
def lv6 : Ds := (wOpen 1000 lv5).2.1
theorem lv1_is : wOpen 1000 [] = (0, lv1, some (wc0, 1)) := by kernel_rfl
theorem lv2_is : wAppend 1000 1 wc0 [(1, 2, 1, [])] lv1 = (0, lv2, lvc, 1) := by kernel_rfl
theorem lv3_is : dSync (walNm 1) lv2 = (0, lv3) := by kernel_rfl
theorem lv4_is : wHard 1000 1 lvc 3 1 lv3 = (0, lv4, ⟨0, 0, 3, 1, [(1, 2, 1, [])]⟩, 1) := by kernel_rfl
theorem lv6_is : wOpen 1000 lv5 = (0, lv6, some (lvc, 1)) := by kernel_rfl
end Go.Proofs.YtijcpmbfhfppmaaGreatDoor
end
/- Logs: live. -/
section
namespace Go.Proofs.YtijcpmbfhfppmaaGreatDoor
open Go.ChangeShapes Go.WideShapes Go.ChangeAt Go.RowKit
set_option linter.unusedVariables false
theorem wal1_is : str (walNm 1) = ⟨#[119, 97, 108, 45, 49]⟩ := by kernel_rfl
theorem lvTerm : termW lvc 1 = (2, true) := by kernel_rfl
theorem one_ents {W : World} {E : Nat} (h : W.heap[E]? = some (.cells #[.int .i64 1, .int .i64 2, .int .i64 1, .slice none 0 0] 60 (0, 0))) : EntsAt W (some ⟨E, 0, none⟩) [(1, 2, 1, [])] :=
  ⟨fun i hi => by
    obtain rfl : i = 0 := by simp at hi; omega
    exact ⟨E, 0, none, 0, rfl, box_cell h 0 _ rfl, box_cell h 1 _ rfl, box_cell h 2 _ rfl, box_cell h 3 _ rfl, ⟨by simp, fun j hj => by simp at hj⟩, fun _ => rfl⟩⟩
theorem one_in {P : Nat → Prop} {W : World} {E : Nat} (h : W.heap[E]? = some (.cells #[.int .i64 1, .int .i64 2, .int .i64 1, .slice none 0 0] 60 (0, 0))) (hP : P E) : EntsIn P W (some ⟨E, 0, none⟩) [(1, 2, 1, [])] := by
  refine ⟨one_ents h, fun b off e h0 => ?_, fun i hi b off dp dc n e hc g o e1 h0 => ?_⟩
  · cases e
    exact hP
  · obtain rfl : i = 0 := by simp at hi; omega
    simp at h0
set_option maxRecDepth 20000 in
set_option maxHeartbeats 16000000 in
theorem live6_calls (w : World) (ht : Tz w) : Calls Tryz.prog 18 #[] w fun e w' => e = .returned (.bool true) ∧ Below w.heap.size w w' := by
  have HT := hide ht
  have NC := hide (anew_calls w 1000)
  rw [show ((1000 : Int).toNat) = 1000 from rfl] at NC
  clear ht
  go_enter Tryz.func18, Tryz.ntmps18
  go_wp2_with fail
  go_at_call 24
  refine (unhide NC).mono ?_
  rintro e V1 ⟨d, M, rfl, h1, v1⟩
  have D1 := hide h1
  have A1 := hide (show Asd (fun _ => False) w.heap.size w V1 from ⟨fun g hg => hg.elim, v1⟩)
  have TT := hide (show ∀ W, Asd (fun _ => False) w.heap.size w W → ∃ w0 : World, w0.heap.size = w.heap.size ∧ Tz w0 ∧ Below w.heap.size w0 W from fun W a => ⟨w, rfl, unhide HT, a.bel⟩)
  have OC := hide (open_calls (unhide D1) (unhide TT _ (unhide A1)) (by omega))
  rw [lv1_is] at OC
  clear h1 v1 NC
  go_wp2_with fail
  go_at_call 25
  refine (unhide OC).mono ?_
  rintro e V2 ⟨a2, L, ep, ec, hs, rfl, z2, _⟩
  have A2 := hide ((unhide A1).trans a2)
  have Z2 := hide z2
  clear a2 z2 OC
  have U3 := hide ((Below.refl V2.heap.size V2).alloc (Nat.le_refl _) (.cells #[.int .i64 1, .int .i64 2, .int .i64 1, .slice none 0 0] 60))
  have X3 := hide (heap_new V2 (.cells #[.int .i64 1, .int .i64 2, .int .i64 1, .slice none 0 0] 60))
  have Z3 := hide ((unhide Z2).more (unhide U3))
  have A3 := hide ((unhide A2).trans (((unhide Z2).asdB (unhide U3)).sub (Bv := fun _ => False) (fun g hg => hg.elim)))
  have S3 := hide (show V2.heap.size < (V2.alloc (.cells #[.int .i64 1, .int .i64 2, .int .i64 1, .slice none 0 0] 60)).heap.size from (Array.getElem?_eq_some_iff.1 (unhide X3)).1)
  have AC := hide (append_calls (unhide Z3) (by omega) (some ⟨V2.heap.size, 0, none⟩) 1 1 [(1, 2, 1, [])] rfl (one_in (unhide X3) (.inr (.inr ⟨Nat.le_refl _, unhide S3⟩))) (by simp [wc0]))
  rw [lv2_is] at AC
  go_wp2_with fail
  generalize V2.alloc _ = V3 at *
  generalize V2.heap.size = E at *
  go_at_call 27
  refine (unhide AC).mono ?_
  rintro e V4 ⟨rfl, z4, a4⟩
  obtain ⟨ep4, ec4, hs4, z4⟩ := z4
  have Z4 := hide (z4.sub (Bv := fun _ => False) (fun g hg => hg.elim))
  have A4 := hide ((unhide A3).trans (a4.sub (Bv := fun _ => False) (fun g hg => hg.elim)))
  clear z4 a4 AC
  have SC := hide (wsync_calls (unhide Z4))
  try dsimp only at SC
  rw [lv3_is] at SC
  try dsimp only
  rw [show ((0 : Nat) : Int) = 0 from rfl]
  go_wp2_with fail
  go_at_call 29
  refine (unhide SC).mono ?_
  rintro e V5 ⟨rfl, z5, a5⟩
  have Z5 := hide z5
  have A5 := hide ((unhide A4).trans (a5.sub (Bv := fun _ => False) (fun g hg => hg.elim)))
  clear z5 a5 SC
  have HC := hide (setHard_yes (unhide Z5) (by omega) 3 1 (by omega) (by omega))
  try dsimp only at HC
  rw [lv4_is, show ((3 : Nat) : Int) = 3 from rfl, show ((1 : Nat) : Int) = 1 from rfl] at HC
  try dsimp only
  rw [show ((0 : Nat) : Int) = 0 from rfl]
  go_wp2_with fail
  go_at_call 28
  refine (unhide HC).mono ?_
  rintro e V6 ⟨rfl, z6, a6⟩
  obtain ⟨ep6, ec6, hs6, z6⟩ := z6
  have D6 := hide (z6.dk.av (Bv := fun _ => False) (fun g hg => hg.elim))
  have A6 := hide ((unhide A5).trans a6)
  clear z6 a6 HC
  have CC := hide (acrash_calls (unhide D6) none 0 0 [] rfl ⟨by simp, by simp⟩ (fun b off e => by cases e))
  try dsimp only at CC
  rw [show crashS [] 0 lv4 = lv5 from rfl] at CC
  try dsimp only
  rw [show ((0 : Nat) : Int) = 0 from rfl]
  go_wp2_with fail
  go_at_call 32
  refine (unhide CC).mono ?_
  rintro e V7 ⟨rfl, d7, a7⟩
  have A7 := hide ((unhide A6).trans a7)
  have OC := hide (open_calls d7 (unhide TT _ (unhide A7)) (by omega))
  rw [lv6_is] at OC
  clear d7 a7 CC
  go_wp2_with fail
  go_at_call 25
  refine (unhide OC).mono ?_
  rintro e V8 ⟨a8, L8, ep8, ec8, hs8, rfl, z8, _⟩
  have A8 := hide ((unhide A7).trans a8)
  have Z8 := hide z8
  clear a8 z8 OC
  have TC := hide (wterm_calls (unhide Z8) 1 (by omega))
  try dsimp only at TC
  rw [lvTerm] at TC
  go_wp2_with fail
  go_at_call 19
  refine (unhide TC).mono ?_
  rintro e V9 ⟨rfl, v9⟩
  have Z9 := hide ((unhide Z8).later v9)
  have A9 := hide ((unhide A8).trans (((unhide Z8).asdB v9).sub (Bv := fun _ => False) (fun g hg => hg.elim)))
  clear v9 TC
  have LC := hide (show Calls Tryz.prog 39 #[.pointer (some ⟨L8, 0, none⟩)] V9 fun e w' => e = .returned (.int .i64 1) ∧ Below V9.heap.size V9 w' from wlast_calls (unhide Z9))
  have HC := hide (show ∀ W, Below V9.heap.size V9 W → Calls Tryz.prog 40 #[.pointer (some ⟨L8, 0, none⟩)] W fun e w' => e = .returned (.agg #[.int .i64 0, .int .i64 0]) ∧ Below W.heap.size W w' from fun W u => whard_calls ((unhide Z9).later u))
  have FC := hide (fun (W : World) (u : Below V9.heap.size V9 W) => file_calls ((unhide Z9).later u))
  rw [wal1_is] at FC
  try dsimp only
  go_wp2_with fail
  go_at_call 39
  refine (unhide LC).mono ?_
  rintro e Va ⟨rfl, va⟩
  have Ba := hide va
  clear va LC
  go_wp2_with fail
  go_at_call 40
  refine (unhide HC _ (unhide Ba)).mono ?_
  rintro e Vb ⟨rfl, vb⟩
  have Bb := hide ((unhide Ba).trans (vb.mono (unhide Ba).size))
  clear vb HC
  go_wp2_with fail
  go_at_call 34
  refine (unhide FC _ (unhide Bb)).mono ?_
  rintro e Vc ⟨rfl, vc⟩
  have Bc := hide ((unhide Bb).trans (vc.mono (unhide Bb).size))
  have FE := hide ((unhide A9).bel.trans ((unhide Bc).mono (unhide A9).bel.size))
  clear vc FC
  go_wp2
  go_ret
  exact ⟨rfl, unhide FE⟩
end Go.Proofs.YtijcpmbfhfppmaaGreatDoor
end
/- The tables of strconv, as a tied row lays them. -/
section
namespace Go.Proofs.YtijcpmbfhfppmaaGreatDoor
open Go.ChangeShapes Go.WideShapes Go.ChangeAt Go.RowKit Go.Lib
set_option linter.unusedVariables false

theorem tabIs_of_reads {P : Program} {W : World} {name : String} {k : IntKind} {zs : List Int} {g : Nat} {t e : TypeId} {n : Nat}
    (hg : P.globalNamed name = some g) (hty : (P.globals[g]?).map (·.type) = some t) (ht : P.underlying t = some (.array n e)) (he : P.underlying e = some (.int k)) (hce : P.cellsOf e = 1) (hct : P.cellsOf t = n)
    (h : VarReads P W name (tabData k zs)) : TabIs P W name k zs := by
  obtain ⟨g', t', cs, fuel, p, hg', ht', hvar, hd⟩ := h
  obtain rfl := Option.some.inj (hg.symm.trans hg')
  obtain rfl := Option.some.inj (hty.symm.trans ht')
  unfold TabIs
  rw [hvar, ← cells_of_tab ht he hce hct hd]
theorem iface_cells {H : Type} {enc : TypeId × Value → H} {P : Program} {w : World} {base : Nat} {sp : Nat → Bool} {held : Bool} {fuel : Nat} {t : TypeId} {ms : _} {cs : List Value} {r : DataW H × List MemPlace}
    (ht : P.underlying t = some (.interface ms)) (h : DataW.trod enc P w base sp held fuel t cs = some r) : cs = [.nilIface] ∨ ∃ u v, cs = [.iface u v] := by
  cases fuel with
  | zero => simp [DataW.trod] at h
  | succ fuel =>
    simp only [DataW.trod, ht] at h
    split at h <;> first | (exact .inl rfl) | (exact .inr ⟨_, _, rfl⟩) | (simp_all) | (cases h)
theorem iface_of_reads {P : Program} {W : World} {name : String} {g : Nat} {t : TypeId} {ms : _} {d : DataW Unit}
    (hg : P.globalNamed name = some g) (hty : (P.globals[g]?).map (·.type) = some t) (ht : P.underlying t = some (.interface ms)) (h : VarReads P W name d) : ∃ ev, W.cell? ⟨g, 0, none⟩ = some ev ∧ (ev = .nilIface ∨ ∃ te pe, ev = .iface te pe) := by
  obtain ⟨g', t', cs, fuel, p, hg', ht', hvar, hd⟩ := h
  obtain rfl := Option.some.inj (hg.symm.trans hg')
  obtain rfl := Option.some.inj (hty.symm.trans ht')
  have h0 := World.var?_cell hg hvar 0
  rcases iface_cells ht hd with e | ⟨u, v, e⟩
  · rw [show cs = #[.nilIface] from Array.toList_inj.1 e] at h0
    exact ⟨_, by simpa using h0, .inl rfl⟩
  · rw [show cs = #[.iface u v] from Array.toList_inj.1 e] at h0
    exact ⟨_, by simpa using h0, .inr ⟨u, v, rfl⟩⟩
noncomputable def powG : Nat := (Tryz.prog.globalNamed "internal/strconv.uint64pow10").getD 0
noncomputable def powT : Nat := ((Tryz.prog.globals[powG]?).map (·.type)).getD 0
noncomputable def powE : Nat := match Tryz.prog.underlying powT with
  | some (.array _ e) => e
  | _ => 0
noncomputable def errT : Nat := ((Tryz.prog.globals[Tryz.laysC172_ren.g 15]?).map (·.type)).getD 0
theorem iface_shape (o : Option TypeDesc) (h : (match o with
    | some (.interface _) => true
    | _ => false) = true) : ∃ ms, o = some (.interface ms) := by
  split at h
  · exact ⟨_, rfl⟩
  · cases h
theorem err_iface : ∃ ms, Tryz.prog.underlying errT = some (.interface ms) := iface_shape _ (by kernel_rfl)
theorem pow_is : (Rows.laid_internal_strconv_uint64pow10 : DataW Unit) = tabData .u64 Lib.pow10Tab := by kernel_rfl
theorem tz_of {W : World} (hL : laidMet Tryz.prog [("math/bits.deBruijn32tab", Rows.laid_math_bits_deBruijn32tab), ("math/bits.deBruijn64tab", Rows.laid_math_bits_deBruijn64tab), ("internal/strconv.uint64pow10", Rows.laid_internal_strconv_uint64pow10), ("strconv.ErrRange", Rows.laid_strconv_ErrRange), ("strconv.ErrSyntax", Rows.laid_strconv_ErrSyntax)] W) : Tz W := by
  have h1 := Lib.laidMet.reads hL (.tail _ (.tail _ (.head _)))
  rw [pow_is] at h1
  have h2 := Lib.laidMet.reads hL (.tail _ (.tail _ (.tail _ (.head _))))
  have h3 := Lib.laidMet.reads hL (.tail _ (.tail _ (.tail _ (.tail _ (.head _)))))
  obtain ⟨ms, hm⟩ := err_iface
  exact ⟨tabIs_of_reads (g := powG) (t := powT) (e := powE) (n := 20) (by kernel_rfl) (by kernel_rfl) (by kernel_rfl) (by kernel_rfl) (by kernel_rfl) (by kernel_rfl) h1,
    iface_of_reads Tryz.laysC172.m15 (by kernel_rfl) hm h3, iface_of_reads (t := errT) Tryz.laysC172.m16 (by kernel_rfl) hm h2⟩
end Go.Proofs.YtijcpmbfhfppmaaGreatDoor
end
/- Hard states and entries that came in, opened. -/
section
namespace Go.Proofs.YtijcpmbfhfppmaaGreatDoor
open Go.ChangeShapes Go.WideShapes Go.ChangeAt Go.RowKit

set_option maxRecDepth 100000
theorem open_hard {H : Type} {enc : TypeId × Value → H} {W : World} {r : Reach} {b0 : Nat} {v : Value} {d : DataW H} {p : List MemPlace} (hv : Value.okWide Tryz.prog W r b0 29 v)
    (h : DataW.Trod enc Tryz.prog W 0 (fun _ => true) true 29 v d p) : ∃ t n : Int, v = .agg #[.int .i64 t, .int .i64 n] ∧ (-9223372036854775808 ≤ t ∧ t ≤ 9223372036854775807) ∧ (-9223372036854775808 ≤ n ∧ n ≤ 9223372036854775807) := by
  obtain ⟨v0, v1, y0, y1, m, rfl, _, _, h0, h1⟩ := Joins.open_agg2 Tryz.underlying29 (by kernel_rfl) (by kernel_rfl) hv h
  obtain ⟨t, e0, _, w0⟩ := DataW.trod_int Tryz.underlying3 h0
  obtain ⟨n, e1, _, w1⟩ := DataW.trod_int Tryz.underlying3 h1
  simp only [List.cons.injEq, and_true] at e0 e1
  subst e0 e1
  exact ⟨t, n, rfl, i64_bounds w0, i64_bounds w1⟩
theorem open_entry {H : Type} {enc : TypeId × Value → H} {W : World} {r : Reach} {b0 : Nat} {v : Value} {d : DataW H} {p : List MemPlace} (hv : Value.okWide Tryz.prog W r b0 60 v)
    (h : DataW.Trod enc Tryz.prog W 0 (fun _ => true) true 60 v d p) : ∃ (k t i : Int) (a : Option Addr) (c : Nat) (l : List Nat), v = .agg #[.int .i64 k, .int .i64 t, .int .i64 i, .slice a l.length c] ∧
      (-9223372036854775808 ≤ k ∧ k ≤ 9223372036854775807) ∧ (-9223372036854775808 ≤ t ∧ t ≤ 9223372036854775807) ∧ (-9223372036854775808 ≤ i ∧ i ≤ 9223372036854775807) ∧ l.length ≤ c ∧ c ≤ maxLen ∧ BytesAt W a l ∧ (a = none → c = 0) := by
  obtain ⟨v0, v1, v2, v3, y0, y1, y2, y3, m, rfl, _, _, h0, h1, h2, h3⟩ := Joins.open_agg4 Tryz.underlying60 (by kernel_rfl) (by kernel_rfl) hv h
  obtain ⟨k, e0, _, w0⟩ := DataW.trod_int Tryz.underlying57 h0
  obtain ⟨t, e1, _, w1⟩ := DataW.trod_int Tryz.underlying3 h1
  obtain ⟨i, e2, _, w2⟩ := DataW.trod_int Tryz.underlying3 h2
  obtain ⟨a, len, c, e3⟩ := Joins.slice_form Tryz.underlying58 h3
  simp only [List.cons.injEq, and_true] at e0 e1 e2 e3
  subst e0 e1 e2 e3
  have hs : DataW.Trod enc Tryz.prog W 0 (fun _ => true) true 58 (.slice a len c) y3.1 y3.2 := ⟨m, h3⟩
  obtain ⟨l, rfl, hc, hx, hb, hz, _⟩ := row8 hs
  exact ⟨k, t, i, a, c, l, rfl, i64_bounds w0, i64_bounds w1, i64_bounds w2, hc, hx, hb, hz⟩
end Go.Proofs.YtijcpmbfhfppmaaGreatDoor
end
