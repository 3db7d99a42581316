/- Snapshots: Save. -/
import Derived.Test.YtagncghpfdjkmaaGreatDoorB23
import Derived.Test.YtagncghpfdjkmaaGreatDoorB09
section
namespace Go.Proofs.YtagncghpfdjkmaaGreatDoor
open Go.ChangeShapes Go.WideShapes Go.ChangeAt Go.RowKit
set_option linter.unusedVariables false

theorem bytesAsd {Av : Nat → Prop} {base : Nat} {w w' : World} {g : Nat} {l : List Nat} (hb : BytesAt w (some ⟨g, 0, none⟩) l) (ha : Asd Av base w w') (hg : Av g) : BytesAt w' (some ⟨g, 0, none⟩) l :=
  ⟨hb.lt, fun i hi => by
    obtain ⟨b, o, e, hc⟩ := hb.cell i hi
    cases e
    exact ⟨g, 0, rfl, (World.cell?_of_block (a := ⟨g, 0 + i, none⟩) (ha.av g hg)).trans hc⟩⟩
def sSave (room : Nat) (s : Sn) (ss : Ds) : Nat × Ds :=
  if snE s ≠ 0 then (snE s, ss) else
  if (sKeep room s.i.toNat (snB s) (dRemove spareS ss).2).1 ≠ 0 then ((sKeep room s.i.toNat (snB s) (dRemove spareS ss).2).1, (dRemove spareS (sKeep room s.i.toNat (snB s) (dRemove spareS ss).2).2).2) else
  (0, (sKeep room s.i.toNat (snB s) (dRemove spareS ss).2).2)
set_option maxRecDepth 20000 in
set_option maxHeartbeats 16000000 in
theorem save_calls {Av : Nat → Prop} {base : Nat} {w : World} {d M room N : Nat} {ss : Ds} (h : DAt Av base w d M room N ss) (hN : N + 1 ≤ 1000000) (ht : ∃ w0 : World, w0.heap.size = base ∧ Tz w0 ∧ Below base w0 w) (s : Sn) (sh : SnH) (hs : SnAt w s sh) :
    Calls Tryz.prog 24 #[.pointer (some ⟨d, 0, none⟩), .agg (snRow s sh)] w (AEnd Av base d M room (N + 1) w (sSave room s ss)) := by
  have U1 := hide ((Below.refl w.heap.size w).alloc (Nat.le_refl _) (.cells (snRow s sh) 29))
  have X1 := hide (heap_new w (.cells (snRow s sh) 29))
  have PC := hide (sput_calls s sh (w.alloc (.cells (snRow s sh) 29)) (hs.later (unhide U1)))
  have H := hide h
  have TT := hide ht
  have AL := hide (show ∀ g, Av g → g < w.heap.size from fun g hg => h.lt hg)
  have HLE := hide h.le
  have SS := hide (show sSave room s ss = (if snE s ≠ 0 then (snE s, ss) else
    if (sKeep room s.i.toNat (snB s) (dRemove spareS ss).2).1 ≠ 0 then ((sKeep room s.i.toNat (snB s) (dRemove spareS ss).2).1, (dRemove spareS (sKeep room s.i.toNat (snB s) (dRemove spareS ss).2).2).2) else
    (0, (sKeep room s.i.toNat (snB s) (dRemove spareS ss).2).2)) from rfl)
  have SB := hide (show snE s = 0 → (1 ≤ s.i ∧ s.i ≤ 1099511627776) ∧ (snB s).length ≤ 20000 from fun h0 => ⟨(snE_may h0).1, by unfold snB; rw [if_pos h0, frameB_length]; have := snI_len h0; omega⟩)
  unfold snRow at U1 X1 PC ⊢
  clear h ht hs
  go_enter Tryz.func24, Tryz.ntmps24
  have x0 := box_cell (unhide X1) 0 _ rfl
  have x1 := box_cell (unhide X1) 1 _ rfl
  have x2 := box_cell (unhide X1) 2 _ rfl
  have x3 := box_cell (unhide X1) 3 _ rfl
  have x4 := box_cell (unhide X1) 4 _ rfl
  go_wp2_with fail
  clear x0 x1 x2 x3 x4
  have K1 := hide (show w.heap.size < (w.alloc (.cells #[.int .i64 s.i, .int .i64 s.t, .slice sh.va s.v.length sh.vc, .slice sh.la s.l.length sh.lc, .slice sh.dp s.d.length sh.dc] 29)).heap.size by simp)
  generalize w.alloc _ = W1 at *
  generalize hK : w.heap.size = K at *
  go_at_call 15
  refine (unhide PC).mono ?_
  rintro e V1 ⟨v1, hcase⟩
  have U2 := hide (show Below w.heap.size w V1 from by
    rw [hK]
    exact (unhide U1).trans (v1.mono (by rw [← hK]; exact (unhide U1).size)))
  have X2 := hide (later_block v1 (unhide X1))
  have K2 := hide (show K < V1.heap.size from Nat.lt_of_lt_of_le (unhide K1) v1.size)
  clear v1 PC X1 U1
  rcases hcase with ⟨h0, rfl⟩ | ⟨h0, g, n, rfl, hgn, hgo⟩
  · rw [if_pos h0] at SS
    have y1 : ¬ ((snE s : Nat) : Int) = 0 := by omega
    have y2 : (((snE s : Nat) : Int) == 0) = false := by simp [h0]
    have FF := hide (show AEnd Av base d M room (N + 1) w (sSave room s ss) (.returned (.int .i64 ((snE s : Nat) : Int))) V1 from by
      rw [unhide SS]
      exact ⟨rfl, ((unhide H).later (unhide U2)).mono (by omega) hN, Asd.of (fun g hg => by rw [hK]; exact unhide AL g hg) (by rw [hK]; exact unhide HLE) (unhide U2)⟩)
    generalize ((snE s : Nat) : Int) = ei at *
    clear SS SB
    go_wp2
    go_ret
    exact unhide FF
  · rw [if_neg (by simpa using h0)] at SS
    obtain ⟨hi, hbl⟩ := unhide SB h0
    have H2 := hide ((unhide H).more (unhide U2))
    obtain ⟨A2, hA2⟩ : ∃ P : Nat → Prop, P = (fun g => Av g ∨ (w.heap.size ≤ g ∧ g < V1.heap.size)) := ⟨_, rfl⟩
    rw [← hA2] at H2
    have AK := hide (show A2 K by rw [hA2, hK]; exact .inr ⟨Nat.le_refl _, unhide K2⟩)
    have AG := hide (show A2 g by
      rw [hA2, hK]
      have := hgo.blk_lt g rfl
      exact .inr ⟨by have := unhide K1; omega, this.2⟩)
    have AA := hide (show ∀ x, Av x → A2 x from fun x hx => by rw [hA2]; exact .inl hx)
    have RC := hide (aremove_calls (unhide H2) spB (by decide))
    rw [show spB.data.toList = spareS from rfl] at RC
    have HB := hide hgo.bytes
    have HGN := hide hgn
    generalize dRemove spareS ss = q1 at *
    obtain ⟨e1, s1⟩ := q1
    dsimp only at SS
    have FE := hide (show ∀ (r : Nat × Ds) V, sSave room s ss = r → DAt A2 base V d M room (N + 1) r.2 → Asd A2 base V1 V → AEnd Av base d M room (N + 1) w (sSave room s ss) (.returned (.int .i64 (r.1 : Int))) V from fun r V hr hd ha => by
      rw [hr]
      exact ⟨rfl, hd.av (unhide AA), (Asd.of (fun g hg => by rw [hK]; exact unhide AL g hg) (by rw [hK]; exact unhide HLE) (unhide U2)).trans (ha.sub (unhide AA))⟩)
    clear hA2 hgo H hgn
    obtain ⟨k, hk⟩ : ∃ k : Nat, s.i = (k : Int) := ⟨s.i.toNat, by omega⟩
    have EK := hide hk
    rw [hk] at X2 hi
    rw [hk, Int.toNat_natCast] at SS
    clear hk
    generalize snB s = b at *
    go_wp2_with fail
    go_at_call 69
    refine (unhide RC).mono ?_
    rintro e V2 ⟨rfl, h2, a2⟩
    dsimp only at h2 ⊢
    have H3 := hide h2
    have A3 := hide a2
    have x0 : V2.cell? ⟨K, 0, none⟩ = some (.int .i64 (k : Int)) := box_cell ((a2.av K (unhide AK)).trans (unhide X2)) 0 _ rfl
    have T2 := hide (show ∃ w0 : World, w0.heap.size = base ∧ Tz w0 ∧ Below base w0 V2 from by
      obtain ⟨w0, t1, t2, t3⟩ := unhide TT
      exact ⟨w0, t1, t2, (t3.trans ((unhide U2).mono (by rw [hK]; exact unhide HLE))).trans a2.bel⟩)
    have FO := hide (fileOf_calls k (by omega) V2 (by
      obtain ⟨w0, t1, t2, t3⟩ := unhide T2
      exact t2.later (by rw [t1]; exact t3)))
    clear h2 a2 RC
    go_wp2_with fail
    clear x0
    go_at_call 71
    refine (unhide FO).mono ?_
    rintro e V3 ⟨rfl, v3⟩
    have HB3 := hide ((bytesAsd (unhide HB) (unhide A3) (unhide AG)).later v3)
    have KC := hide (keep_calls ((unhide H3).later v3) hN (by
      obtain ⟨w0, t1, t2, t3⟩ := unhide T2
      exact ⟨w0, t1, t2, t3.trans (v3.mono (by have := t3.size; exact (unhide H3).le))⟩) k (by omega) (some ⟨g, 0, none⟩) n n b (unhide HGN) (Nat.le_refl _) (unhide HB3) (fun e => by cases e) (fun g' o e _ => by cases e; exact .inr (unhide AG)) (by rw [← unhide HGN]; omega))
    have A4 := hide ((unhide A3).trans (Asd.of (fun g hg => (unhide H3).lt hg) (unhide H3).le v3))
    generalize sKeep room k b s1 = q2 at *
    obtain ⟨e2, s2⟩ := q2
    dsimp only at SS
    clear v3 FO HB3 A3
    go_wp2_with fail
    go_at_call 70
    refine (unhide KC).mono ?_
    rintro e V4 ⟨rfl, h4, a4⟩
    dsimp only at h4 ⊢
    by_cases hz : e2 = 0
    · subst hz
      rw [if_neg (by simp)] at SS
      have FF := hide (unhide FE (0, s2) V4 (unhide SS) h4 ((unhide A4).trans a4))
      dsimp only at FF
      rw [show ((0 : Nat) : Int) = 0 from rfl] at FF ⊢
      clear h4 a4 KC FE
      go_wp2
      go_ret
      exact unhide FF
    · have y1 : ¬ (e2 : Int) = 0 := by omega
      have y2 : ((e2 : Int) == 0) = false := by simp [hz]
      rw [if_pos hz] at SS
      have RC := hide (aremove_calls h4 spB (by decide))
      rw [show spB.data.toList = spareS from rfl] at RC
      generalize dRemove spareS s2 = q3 at *
      obtain ⟨e3, s3⟩ := q3
      dsimp only at SS
      have A5 := hide ((unhide A4).trans a4)
      have FE2 := hide (show ∀ V, DAt A2 base V d M room (N + 1) s3 → Asd A2 base V1 V → AEnd Av base d M room (N + 1) w (sSave room s ss) (.returned (.int .i64 (e2 : Int))) V from fun V hd ha => unhide FE (e2, s3) V (unhide SS) hd ha)
      generalize (e2 : Int) = ei at *
      clear h4 a4 KC FE
      go_wp2_with fail
      go_at_call 69
      refine (unhide RC).mono ?_
      rintro e V5 ⟨rfl, h5, a5⟩
      have FF := hide (unhide FE2 V5 h5 ((unhide A5).trans a5))
      clear h5 a5 RC FE2
      dsimp only
      generalize ((e3 : Nat) : Int) = e3i at *
      go_wp2
      go_ret
      exact unhide FF
end Go.Proofs.YtagncghpfdjkmaaGreatDoor
end
/- Disks: Read of any name. -/
section
namespace Go.Proofs.YtagncghpfdjkmaaGreatDoor
open Go.ChangeShapes Go.WideShapes Go.ChangeAt Go.RowKit
set_option linter.unusedVariables false

/-- What a file holds now (nothing, if there is none), and the error of reading it. -/
def nowL (k : Nm) (ss : Ds) : List Nat := (getS k ss).elim [] (·.now)
def readE (k : Nm) (ss : Ds) : Nat := if (getS k ss).isSome then 0 else 8
theorem readE_or (k : Nm) (ss : Ds) : readE k ss = 0 ∨ readE k ss = 8 := by
  unfold readE
  split
  · exact .inl rfl
  · exact .inr rfl
section
variable {Av : Nat → Prop} {base : Nat} {w w' : World} {d M room N : Nat} {ss : Ds}
theorem aread_calls (h : DAt Av base w d M room N ss) (s : ByteArray) (hs : s.size ≤ maxLen) :
    Calls Tryz.prog 88 #[.pointer (some ⟨d, 0, none⟩), .string s] w fun e w' => ∃ sp k, e = .returned (.tuple #[.slice sp k k, .int .i64 (readE s.data.toList ss : Int)]) ∧ (nowL s.data.toList ss).length = k ∧ k ≤ 262144 ∧ Bx w.heap.size w' sp k (nowL s.data.toList ss) ∧ Below w.heap.size w w' := by
  cases hx : getS s.data.toList ss with
  | none =>
    refine (aread_no h s hs hx).mono ?_
    rintro e W ⟨rfl, rfl⟩
    unfold nowL readE
    rw [hx]
    exact ⟨none, 0, rfl, rfl, by omega, Bx.ofNil _ _, Below.refl _ _⟩
  | some x =>
    refine (aread_yes h s hs x hx).mono ?_
    rintro e W ⟨sp, k, rfl, h1, h2, h3, h4⟩
    unfold nowL readE
    rw [hx]
    exact ⟨sp, k, rfl, h1, h2, h3, h4⟩
end
end Go.Proofs.YtagncghpfdjkmaaGreatDoor
end
