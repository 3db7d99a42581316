/- Plane: configurations that are the same. -/
import Derived.Test.YtpkpnedcecjlbaaGreatDoorB15
import Derived.Test.YtpkpnedcecjlbaaGreatDoorB02
namespace Go.Proofs.YtpkpnedcecjlbaaGreatDoor
open Go.ChangeShapes Go.WideShapes Go.ChangeAt Go.RowKit

theorem call_bits (x : Nat) (w : World) : (callFunc 18 #[.float .f64 x]).run Tryz.prog w = .ok (.value (.int .u64 (x : Int))) w := by
  rw [run_callFunc_extern Tryz.func18 (by kernel_rfl) (by kernel_rfl) (by kernel_rfl) (e := Extern.MathFloatBits.float64bits) (by kernel_rfl)]
  rfl
set_option maxRecDepth 20000 in
set_option maxHeartbeats 8000000 in
theorem sameT_calls {w : World} {a b : Option Addr} {l : List Tg} (h1 : TgsAt w a l) (h2 : TgsAt w b l) (n c1 c2 : Nat) (hn : l.length = n) (hx : n ≤ maxLen) :
    Calls Tryz.prog 39 #[.slice a n c1, .slice b n c2] w fun e w' => e = .returned (.bool true) ∧ Below w.heap.size w w' := by
  have H1 := hide h1
  have H2 := hide h2
  have HN := hide hn
  simp only [maxLen] at hx
  clear h1 h2 hn
  have hbits := call_bits
  go_enter Tryz.func39, Tryz.ntmps39
  go_wp2_with fail
  go_loopw [5] (fun i wr => ∃ j : Nat, j ≤ n ∧ i = .int .i64 (j : Int) ∧ Hid (Below w.heap.size w wr)) (fun i _ => n - (intOf i).toNat)
  case atStart => exact ⟨0, by omega, rfl, hide (Below.refl _ _)⟩
  case round =>
    obtain ⟨j, hj, rfl, B⟩ := hrel
    by_cases hjn : j < n
    · have y0 : (0 : Int) ≤ (j : Int) := by omega
      have y1 : (j : Int) < (n : Int) := by omega
      have hjl : j < l.length := by rw [unhide HN]; exact hjn
      obtain ⟨b1, o1, rfl, q0, q1⟩ := (unhide H1).cell j hjl
      obtain ⟨b2, o2, rfl, r0, r1⟩ := (unhide H2).cell j hjl
      have p0 := cell_later (unhide B) q0
      have p1 := cell_later (unhide B) q1
      have s0 := cell_later (unhide B) r0
      have s1 := cell_later (unhide B) r1
      generalize l[j] = t at *
      obtain ⟨s, x⟩ := t
      simp only at p0 p1 s0 s1
      have hss : (s.toList == s.toList) = true := by simp
      have BD := hide (show ∀ k, Below w.heap.size w (wr.drewN k) from fun k => ⟨(unhide B).os, (unhide B).tape, (unhide B).output, (unhide B).size, (unhide B).block⟩)
      clear q0 q1 r0 r1
      go_wp2_with fail
      go_quiet (fail)
      go_wp2
      exact ⟨⟨j + 1, by omega, by go_num, unhide BD _⟩, by simp [intOf]; omega⟩
    · have hjj : ¬ (j : Int) < (n : Int) := by omega
      obtain rfl : j = n := by omega
      go_wp2
      go_ret
      exact ⟨rfl, unhide B⟩
set_option maxRecDepth 20000 in
set_option maxHeartbeats 8000000 in
theorem sameC_calls {w : World} {e : Cf} {h1 h2 : CfH} (hc1 : CfAt w e h1) (hc2 : CfAt w e h2) :
    Calls Tryz.prog 23 #[cfVal e h1, cfVal e h2] w fun r w' => r = .returned (.bool true) ∧ Below w.heap.size w w' := by
  unfold cfVal
  have b1 : Below w.heap.size w (w.alloc (.cells #[.int .i64 e.ver, .slice h1.ra e.rs.length h1.rc, .slice h1.pa e.ps.length h1.pc] 53)) := (Below.refl _ _).alloc (Nat.le_refl _) _
  have b2 := b1.alloc b1.size (.cells #[.int .i64 e.ver, .slice h2.ra e.rs.length h2.rc, .slice h2.pa e.ps.length h2.pc] 53)
  have s1 : (w.alloc (.cells #[.int .i64 e.ver, .slice h1.ra e.rs.length h1.rc, .slice h1.pa e.ps.length h1.pc] 53)).heap.size = w.heap.size + 1 := by simp
  have X1 := hide (show ((w.alloc (.cells #[.int .i64 e.ver, .slice h1.ra e.rs.length h1.rc, .slice h1.pa e.ps.length h1.pc] 53)).alloc (.cells #[.int .i64 e.ver, .slice h2.ra e.rs.length h2.rc, .slice h2.pa e.ps.length h2.pc] 53)).heap[w.heap.size]? = some (.cells #[.int .i64 e.ver, .slice h1.ra e.rs.length h1.rc, .slice h1.pa e.ps.length h1.pc] 53 (0, 0)) by rw [Below.heap_alloc _ _ _ (by simp)]; exact heap_new _ _)
  have X2 := hide (show ((w.alloc (.cells #[.int .i64 e.ver, .slice h1.ra e.rs.length h1.rc, .slice h1.pa e.ps.length h1.pc] 53)).alloc (.cells #[.int .i64 e.ver, .slice h2.ra e.rs.length h2.rc, .slice h2.pa e.ps.length h2.pc] 53)).heap[w.heap.size + 1]? = some (.cells #[.int .i64 e.ver, .slice h2.ra e.rs.length h2.rc, .slice h2.pa e.ps.length h2.pc] 53 (0, 0)) by rw [← s1]; exact heap_new _ _)
  have B2 := hide b2
  have R1 := hide hc1.rts
  have R2 := hide hc2.rts
  have P1 := hide hc1.pos
  have P2 := hide hc2.pos
  have hrl := hc1.rl.1
  have hpl := hc1.pl.1
  obtain ⟨ver, rs, ps⟩ := e
  obtain ⟨ra1, rc1, pa1, pc1⟩ := h1
  obtain ⟨ra2, rc2, pa2, pc2⟩ := h2
  simp only at *
  simp only [maxLen] at hrl hpl
  generalize hn : rs.length = n at *
  generalize hm : ps.length = m at *
  have HN := hide hn
  have HM := hide hm
  clear hc1 hc2 b1 b2 s1 hn hm
  have k10 := fcell0 (unhide X1) 0 _ rfl
  have k11 := fcell0 (unhide X1) 1 _ rfl
  have k12 := fcell0 (unhide X1) 2 _ rfl
  have k20 := fcell0 (unhide X2) 0 _ rfl
  have k21 := fcell0 (unhide X2) 1 _ rfl
  have k22 := fcell0 (unhide X2) 2 _ rfl
  go_enter Tryz.func23, Tryz.ntmps23
  go_wp2_with fail
  generalize ((w.alloc (.cells #[.int .i64 ver, .slice ra1 n rc1, .slice pa1 m pc1] 53)).alloc (.cells #[.int .i64 ver, .slice ra2 n rc2, .slice pa2 m pc2] 53)) = W2 at *
  go_loopw [5] (fun i wr => ∃ j : Nat, j ≤ m ∧ i = .int .i64 (j : Int) ∧ Hid (Below W2.heap.size W2 wr)) (fun i _ => m - (intOf i).toNat)
  case atStart => exact ⟨0, by omega, rfl, hide (Below.refl _ _)⟩
  case round =>
    obtain ⟨j, hj, rfl, B⟩ := hrel
    have F := hide ((unhide B2).trans ((unhide B).mono (unhide B2).size))
    by_cases hjn : j < m
    · have y0 : (0 : Int) ≤ (j : Int) := by omega
      have y1 : (j : Int) < (m : Int) := by omega
      have hjl : j < ps.length := by rw [unhide HM]; exact hjn
      obtain ⟨g1, o1, ta1, tc1, rfl, q0, q1, T1, hl1, _⟩ := (unhide P1).cell j hjl
      obtain ⟨g2, o2, ta2, tc2, rfl, r0, r1, T2, hl2, _⟩ := (unhide P2).cell j hjl
      have p12 := cell_later (unhide B) k12
      have p22 := cell_later (unhide B) k22
      have p0 := cell_later (unhide F) q0
      have p1 := cell_later (unhide F) q1
      have s0 := cell_later (unhide F) r0
      have s1 := cell_later (unhide F) r1
      have BD := hide (show Below w.heap.size w wr.drew from (unhide F).drew)
      have BW := hide (show Below W2.heap.size W2 wr.drew from (unhide B).drew)
      have ST := hide (fun W (hb : Below w.heap.size w W) => sameT_calls (T1.later hb) (T2.later hb) ps[j].ts.length tc1 tc2 rfl hl1.1)
      generalize ps[j].ts.length = tl at *
      generalize ps[j].nm = nm at *
      have hss : (nm.toList == nm.toList) = true := by simp
      have KP := hide (show ∀ W : World, Below wr.heap.size wr W → W.cell? ⟨w.heap.size, 2, none⟩ = some (.slice (some ⟨g1, o1, none⟩) m pc1) ∧ W.cell? ⟨w.heap.size + 1, 2, none⟩ = some (.slice (some ⟨g2, o2, none⟩) m pc2) ∧ W.cell? ⟨g1, o1 + j * 2, none⟩ = some (.string nm) ∧ W.cell? ⟨g2, o2 + j * 2, none⟩ = some (.string nm) ∧ W.cell? ⟨g1, o1 + j * 2 + 1, none⟩ = some (.slice ta1 tl tc1) ∧ W.cell? ⟨g2, o2 + j * 2 + 1, none⟩ = some (.slice ta2 tl tc2) from fun W hb => ⟨cell_later hb p12, cell_later hb p22, cell_later hb p0, cell_later hb s0, cell_later hb p1, cell_later hb s1⟩)
      clear q0 q1 r0 r1 T1 T2 hl1 hl2
      go_wp2_with fail
      refine wp_region_held_drew (S := fun w' => w'.cell? ⟨w.heap.size, 2, none⟩ = some (.slice (some ⟨g1, o1, none⟩) m pc1) ∧ w'.cell? ⟨w.heap.size + 1, 2, none⟩ = some (.slice (some ⟨g2, o2, none⟩) m pc2) ∧ w'.cell? ⟨g1, o1 + j * 2, none⟩ = some (.string nm) ∧ w'.cell? ⟨g2, o2 + j * 2, none⟩ = some (.string nm) ∧ w'.cell? ⟨g1, o1 + j * 2 + 1, none⟩ = some (.slice ta1 tl tc1) ∧ w'.cell? ⟨g2, o2 + j * 2 + 1, none⟩ = some (.slice ta2 tl tc2)) (by kernel_rfl) ?_ (fun hHeld => ?_)
      · try dsimp only
        first | (have hV : B7 = B7 := rfl; clear hV; exact unhide KP _ (unhide B7)) | exact ⟨p12, p22, p0, s0, p1, s1⟩
      refine hT 0 ?_
      refine hT 1 ?_
      refine hT 2 ?_
      refine hT 3 ?_
      refine hT 4 ?_
      refine hT 5 ?_
      refine hT 6 ?_
      refine hT 7 ?_
      refine hT 8 ?_
      refine hT 9 ?_
      refine hT 10 ?_
      refine hT 11 ?_
      refine hT 12 ?_
      refine hT 13 ?_
      refine hT 14 ?_
      refine hT 15 ?_
      refine hT 16 ?_
      refine hT 17 ?_
      refine hT 18 ?_
      refine hT 19 ?_
      refine hT 20 ?_
      refine hT 21 ?_
      refine hT 22 ?_
      refine hT 23 ?_
      refine hT 24 ?_
      refine hT 25 ?_
      refine hO 26 (fun K hK => ?_)
      go_simp
      first
        | (go_at_call 39
           refine (unhide ST _ (unhide BD)).mono ?_
           rintro e V1 ⟨rfl, v1⟩
           have B7 := hide (show Below wr.heap.size wr V1 from ⟨v1.os, v1.tape, v1.output, v1.size, v1.block⟩)
           have B8 := hide ((unhide B).trans ((unhide B7).mono (unhide B).size))
           clear v1)
      go_wp2_with fail
      refine hK.out _ _ ?_ (fun hHeld => ?_)
      · try dsimp only
        first | (have hV : B7 = B7 := rfl; clear hV; exact unhide KP _ (unhide B7)) | exact ⟨p12, p22, p0, s0, p1, s1⟩
      clear hK K
      refine hP ?_
      refine hT 27 ?_
      refine hT 28 ?_
      refine wpAnyH_done (by kernel_rfl) ?_ _
      go_wp2
      exact ⟨⟨j + 1, by omega, by go_num, unhide B8⟩, by simp [intOf]; omega⟩
    · have hjj : ¬ (j : Int) < (m : Int) := by omega
      obtain rfl : j = m := by omega
      have p12 := cell_later (unhide B) k12
      go_wp2_with fail
      go_loopw [6] (fun i wr => ∃ j2 : Nat, j2 ≤ n ∧ i = .int .i64 (j2 : Int) ∧ Hid (Below W2.heap.size W2 wr)) (fun i _ => n - (intOf i).toNat)
      case atStart => exact ⟨0, by omega, rfl, B⟩
      case round =>
        obtain ⟨j2, hj2, rfl, B'⟩ := hrel
        have F' := hide ((unhide B2).trans ((unhide B').mono (unhide B2).size))
        have p11 := cell_later (unhide B') k11
        have p21 := cell_later (unhide B') k21
        by_cases hjn2 : j2 < n
        · have y0 : (0 : Int) ≤ (j2 : Int) := by omega
          have y1 : (j2 : Int) < (n : Int) := by omega
          have hjl : j2 < rs.length := by rw [unhide HN]; exact hjn2
          obtain ⟨g1, o1, rfl, q0, q1, q2⟩ := (unhide R1).cell j2 hjl
          obtain ⟨g2, o2, rfl, r0, r1, r2⟩ := (unhide R2).cell j2 hjl
          have a0 := cell_later (unhide F') q0
          have a1 := cell_later (unhide F') q1
          have a2 := cell_later (unhide F') q2
          have d0 := cell_later (unhide F') r0
          have d1 := cell_later (unhide F') r1
          have d2 := cell_later (unhide F') r2
          generalize rs[j2] = r at *
          obtain ⟨rh, rp, rl⟩ := r
          simp only at a0 a1 a2 d0 d1 d2
          have BD := hide (show ∀ k, Below W2.heap.size W2 (wr.drewN k) from fun k => ⟨(unhide B').os, (unhide B').tape, (unhide B').output, (unhide B').size, (unhide B').block⟩)
          clear q0 q1 q2 r0 r1 r2
          go_wp2_with fail
          go_quiet (fail)
          go_wp2
          exact ⟨⟨j2 + 1, by omega, by go_num, unhide BD _⟩, by simp [intOf]; omega⟩
        · have hjj2 : ¬ (j2 : Int) < (n : Int) := by omega
          obtain rfl : j2 = n := by omega
          go_wp2
          go_ret
          exact ⟨rfl, unhide F'⟩
end Go.Proofs.YtpkpnedcecjlbaaGreatDoor
