/- Logs: Open. -/
import Derived.Test.YtijcpmbfhfppmaaGreatDoorWgb
namespace Go.Proofs.YtijcpmbfhfppmaaGreatDoor
open Go.ChangeShapes Go.WideShapes Go.ChangeAt Go.RowKit
set_option linter.unusedVariables false

/-- A log that is taken from its file, or none. -/
def wTaken (r : Nat × Ds × Wc × Nat) : Nat × Ds × Option (Wc × Nat) := if r.1 ≠ 0 then (r.1, r.2.1, none) else (0, r.2.1, some (r.2.2.1, r.2.2.2))
/-- Open: the error, the disk, and the log's content with its file's number. -/
def wOpen (room : Nat) (ss : Ds) : Nat × Ds × Option (Wc × Nat) :=
  if greatW (ss.map (·.1)) 0 ≠ 0 then wTaken (wLoad (greatW (ss.map (·.1)) 0) wc0 (remO (greatW (ss.map (·.1)) 0) (ss.map (·.1)) ss))
  else if (wAnew room 0 (allB wc0) (remO 0 (ss.map (·.1)) ss)).1 ≠ 0 then ((wAnew room 0 (allB wc0) (remO 0 (ss.map (·.1)) ss)).1, (wAnew room 0 (allB wc0) (remO 0 (ss.map (·.1)) ss)).2, none)
  else wTaken (wLoad 1 wc0 (wAnew room 0 (allB wc0) (remO 0 (ss.map (·.1)) ss)).2)
theorem wc0_ok : WOk wc0 := ⟨by simp [wc0], by simp [wc0], by simp [wc0], by simp [wc0], by simp [wc0]⟩
/-- How Open ends. -/
def OpEnd (Av : Nat → Prop) (base d M room N : Nat) (w : World) (r : Nat × Ds × Option (Wc × Nat)) (e : Ending) (w' : World) : Prop :=
  Asd Av base w w' ∧ match r.2.2 with
  | none => e = .returned (.tuple #[.pointer none, .int .i64 (r.1 : Int)]) ∧ DAt Av base w' d M room N r.2.1
  | some (c, n) => ∃ L ep ec hs, e = .returned (.tuple #[.pointer (some ⟨L, 0, none⟩), .int .i64 0]) ∧ WAt Av base w' L d M room N r.2.1 c n ep ec hs ∧ w.heap.size ≤ L
section
variable {Av : Nat → Prop} {base : Nat} {w w' : World} {L d M room N N' : Nat} {ss ss' : Ds} {c : Wc} {n : Nat} {ep : Option Addr} {ec : Nat} {hs : List (Option Addr × Nat)}
/-- A new log over a disk. -/
theorem DAt.log (h : DAt Av base w d M room N ss) (ht : ∃ w0 : World, w0.heap.size = base ∧ Tz w0 ∧ Below base w0 w) (n : Nat) (hn : n ≤ 1099511627776) :
    WAt Av base (w.alloc (.cells #[.pointer (some ⟨d, 0, none⟩), .int .i64 0, .int .i64 0, .int .i64 0, .int .i64 0, .slice none 0 0, .int .i64 (n : Int)] 96)) w.heap.size d M room N ss wc0 n none 0 [] := by
  have u : Below w.heap.size w (w.alloc (.cells #[.pointer (some ⟨d, 0, none⟩), .int .i64 0, .int .i64 0, .int .i64 0, .int .i64 0, .slice none 0 0, .int .i64 (n : Int)] 96)) := (Below.refl _ _).alloc (Nat.le_refl _) _
  have hs : (w.alloc (.cells #[.pointer (some ⟨d, 0, none⟩), .int .i64 0, .int .i64 0, .int .i64 0, .int .i64 0, .slice none 0 0, .int .i64 (n : Int)] 96)).heap.size = w.heap.size + 1 := by simp
  have nf : ∀ g, ¬ LFoot none [] g := fun g hg => by
    rcases hg with hg | ⟨x, hx, _⟩
    · cases hg
    · simp at hx
  refine ⟨(h.more u).av (fun g hg => ?_), ⟨heap_new w _⟩, OwnL.ofNil _ _, h.le, fun g hg => ⟨fun e => ?_, nf g⟩, wc0_ok, hn, by simp [wc0], ?_⟩
  · rcases hg with hg | rfl | hg
    · exact .inl hg
    · exact .inr ⟨Nat.le_refl _, by rw [hs]; omega⟩
    · exact absurd hg (nf g)
  · have := h.lt hg
    omega
  · obtain ⟨w0, h1, h2, h3⟩ := ht
    exact ⟨w0, h1, h2, h3.trans (u.mono h.le)⟩
set_option maxRecDepth 20000 in
set_option maxHeartbeats 16000000 in
theorem open_calls (h : DAt Av base w d M room N ss) (ht : ∃ w0 : World, w0.heap.size = base ∧ Tz w0 ∧ Below base w0 w) (hN : N + 2 ≤ 1000000) :
    Calls Tryz.prog 25 #[.pointer (some ⟨d, 0, none⟩)] w (OpEnd Av base d M room (N + 2) w (wOpen room ss)) := by
  have WO := hide (show wOpen room ss = (if greatW (ss.map (·.1)) 0 ≠ 0 then wTaken (wLoad (greatW (ss.map (·.1)) 0) wc0 (remO (greatW (ss.map (·.1)) 0) (ss.map (·.1)) ss))
    else if (wAnew room 0 (allB wc0) (remO 0 (ss.map (·.1)) ss)).1 ≠ 0 then ((wAnew room 0 (allB wc0) (remO 0 (ss.map (·.1)) ss)).1, (wAnew room 0 (allB wc0) (remO 0 (ss.map (·.1)) ss)).2, none)
    else wTaken (wLoad 1 wc0 (wAnew room 0 (allB wc0) (remO 0 (ss.map (·.1)) ss)).2)) from rfl)
  generalize wOpen room ss = wo at *
  have NC := hide (anames_calls h)
  have H := hide h
  have HT := hide ht
  have LN := hide h.len
  have NM := hide h.nmlen
  clear h ht
  go_enter Tryz.func25, Tryz.ntmps25
  go_wp2_with fail
  go_at_call 38
  refine (unhide NC).mono ?_
  rintro e V1 ⟨sp1, n1, k1, rfl, hn1, o1, v1⟩
  have TW := hide (show Tz V1 from by
    obtain ⟨w0, q1, q2, q3⟩ := unhide HT
    exact q2.later (by rw [q1]; exact q3.trans (v1.mono (unhide H).le)))
  have GC := hide (greatest_calls o1 (show (ss.map (·.1)).length = n1 by rw [List.length_map]; exact hn1) (by have := unhide LN; omega) (fun s hs => by
    obtain ⟨x, hx, rfl⟩ := List.mem_map.1 hs
    exact unhide NM x hx) (unhide TW))
  have B1 := hide v1
  clear o1 v1 hn1 NC
  have GL := hide (greatW_le (ss.map (·.1)) 0 (by omega))
  generalize hgw : greatW (ss.map (·.1)) 0 = gw at *
  go_wp2_with fail
  go_at_call 61
  refine (unhide GC).mono ?_
  rintro e V2 ⟨rfl, v2⟩
  have B2 := hide ((unhide B1).trans (v2.mono (unhide B1).size))
  have Z3 := hide (((unhide H).later (unhide B2)).log (let ⟨w0, q1, q2, q3⟩ := unhide HT; ⟨w0, q1, q2, q3.trans ((unhide B2).mono (unhide H).le)⟩) gw (unhide GL))
  have A3 := hide ((show Asd Av base w V2 from Asd.of (fun g hg => (unhide H).lt hg) (unhide H).le (unhide B2)).trans (Asd.of (fun g hg => Nat.lt_of_lt_of_le ((unhide H).lt hg) (unhide B2).size) (Nat.le_trans (unhide H).le (unhide B2).size) ((Below.refl V2.heap.size V2).alloc (Nat.le_refl _) (.cells #[.pointer (some ⟨d, 0, none⟩), .int .i64 0, .int .i64 0, .int .i64 0, .int .i64 0, .slice none 0 0, .int .i64 (gw : Int)] 96))))
  have SL := hide (show w.heap.size ≤ V2.heap.size from (unhide B2).size)
  clear v2 GC
  go_wp2_with fail
  generalize V2.alloc _ = V3 at *
  generalize V2.heap.size = L at *
  have RC := hide (removeOthers_calls (unhide Z3))
  go_wp2_with fail
  go_at_call 62
  refine (unhide RC).mono ?_
  rintro e V4 ⟨rfl, z4, a4⟩
  have Z4 := hide z4
  have A4 := hide ((unhide A3).trans a4)
  clear z4 a4 RC
  obtain ⟨_, c6, _⟩ := (unhide Z4).ptr
  have TE := hide (show ∀ (r : Nat × Ds × Wc × Nat) W, (∃ ep ec hs, WAt Av base W L d M room (N + 2) r.2.1 r.2.2.1 r.2.2.2 ep ec hs) → Asd Av base w W → (r.1 = 0 → OpEnd Av base d M room (N + 2) w (wTaken r) (.returned (.tuple #[.pointer (some ⟨L, 0, none⟩), .int .i64 0])) W) ∧ (r.1 ≠ 0 → OpEnd Av base d M room (N + 2) w (wTaken r) (.returned (.tuple #[.pointer none, .int .i64 (r.1 : Int)])) W) from fun r W hz ha => by
    obtain ⟨ep, ec, hs, z⟩ := hz
    unfold wTaken
    refine ⟨fun h0 => ?_, fun h0 => ?_⟩
    · rw [if_neg (by simp [h0])]
      exact ⟨ha, L, ep, ec, hs, rfl, z, unhide SL⟩
    · rw [if_pos h0]
      exact ⟨ha, rfl, z.dk.av (fun g hg => .inl hg)⟩)
  by_cases h0 : gw = 0
  · subst h0
    rw [if_neg (by simp)] at WO
    have AC := hide (wanew_calls (c2 := wc0) (ep2 := none) (ec2 := 0) (hs2 := []) (unhide Z4) (by omega) (OwnL.ofNil _ _) (fun g hg => by
      rcases hg with hg | ⟨x, hx, _⟩
      · cases hg
      · simp at hx) wc0_ok (by simp [wc0]))
    rw [show (#[.pointer (some ⟨L, 0, none⟩), .agg #[.int .i64 (wc0.bi : Int), .int .i64 (wc0.bt : Int), .int .i64 (wc0.ht : Int), .int .i64 (wc0.hv : Int), .slice none wc0.es.length 0]] : Array Value) = #[.pointer (some ⟨L, 0, none⟩), .agg #[.int .i64 0, .int .i64 0, .int .i64 0, .int .i64 0, .slice none 0 0]] from rfl] at AC
    rw [show ((0 : Nat) : Int) = 0 from rfl] at c6
    generalize wAnew room 0 (allB wc0) (remO 0 (ss.map (·.1)) ss) = r3 at *
    obtain ⟨e3, s3⟩ := r3
    try dsimp only at WO
    try rw [show ((0 : Nat) : Int) = 0 from rfl]
    go_wp2_with fail
    clear c6
    go_at_call 63
    refine (unhide AC).mono ?_
    rintro e V6 ⟨rfl, a6, y6, n6⟩
    have A6 := hide ((unhide A4).trans a6)
    clear a6 AC
    try dsimp only at y6 n6 ⊢
    by_cases h3 : e3 = 0
    · subst h3
      rw [if_neg (by simp)] at WO
      have Z6 := hide ((y6 rfl).2.sub (Bv := Av) (fun g hg => ⟨hg, fun hf => by
        rcases hf with hf | ⟨x, hx, _⟩
        · cases hf
        · simp at hx⟩))
      clear y6 n6
      rw [show ((0 : Nat) : Int) = 0 from rfl]
      have LC := hide (load_calls (unhide Z6) hN)
      rw [Nat.zero_add] at LC
      generalize wLoad 1 wc0 s3 = r5 at *
      obtain ⟨e5, s5, c5, n5⟩ := r5
      go_wp2_with fail
      go_at_call 64
      refine (unhide LC).mono ?_
      rintro e V5 ⟨rfl, z5, a5⟩
      have T5 := hide (unhide TE (e5, s5, c5, n5) V5 z5 ((unhide A6).trans a5))
      clear z5 a5 LC
      dsimp only
      by_cases h5 : e5 = 0
      · subst h5
        have FE := hide ((unhide T5).1 rfl)
        rw [show ((0 : Nat) : Int) = 0 from rfl]
        go_wp2
        go_ret2
        rw [unhide WO]
        exact unhide FE
      · have FE := hide ((unhide T5).2 h5)
        have h5' : ((e5 : Int) == 0) = false := by simp; omega
        have h5'' : ¬ (e5 : Int) = 0 := by omega
        go_wp2
        go_ret2
        rw [unhide WO]
        exact unhide FE
    · rw [if_pos h3] at WO
      have h3' : ((e3 : Int) == 0) = false := by simp; omega
      have h3'' : ¬ (e3 : Int) = 0 := by omega
      have FE := hide (show OpEnd Av base d M room (N + 2) w wo (.returned (.tuple #[.pointer none, .int .i64 (e3 : Int)])) V6 by
        rw [unhide WO]
        exact ⟨unhide A6, rfl, ((n6 h3).dk.mono (by omega) hN).av (fun g hg => .inl hg)⟩)
      clear y6 n6
      go_wp2
      go_ret2
      exact unhide FE
  · rw [if_pos h0] at WO
    have h0' : ((gw : Int) == 0) = false := by simp; omega
    have h0'' : ¬ (gw : Int) = 0 := by omega
    have LC := hide (load_calls ((unhide Z4).monoN (N' := N + 1) (by omega) (by omega)) hN)
    generalize wLoad gw wc0 (remO gw (ss.map (·.1)) ss) = r5 at *
    obtain ⟨e5, s5, c5, n5⟩ := r5
    go_wp2_with fail
    go_at_call 64
    refine (unhide LC).mono ?_
    rintro e V5 ⟨rfl, z5, a5⟩
    have T5 := hide (unhide TE (e5, s5, c5, n5) V5 z5 ((unhide A4).trans a5))
    clear z5 a5 LC
    dsimp only
    by_cases h5 : e5 = 0
    · subst h5
      have FE := hide ((unhide T5).1 rfl)
      rw [show ((0 : Nat) : Int) = 0 from rfl]
      go_wp2
      go_ret2
      rw [unhide WO]
      exact unhide FE
    · have FE := hide ((unhide T5).2 h5)
      have h5' : ((e5 : Int) == 0) = false := by simp; omega
      have h5'' : ¬ (e5 : Int) = 0 := by omega
      go_wp2
      go_ret2
      rw [unhide WO]
      exact unhide FE
end
end Go.Proofs.YtijcpmbfhfppmaaGreatDoor
