/- Plane: configurations that are the same. -/
import Derived.Test.YtcmiappiocfbiaaGreatDoorB05
import Derived.Test.YtcmiappiocfbiaaGreatDoorB16
import Derived.Test.YtcmiappiocfbiaaGreatDoorB08
section
namespace Go.Proofs.YtcmiappiocfbiaaGreatDoor
open Go.ChangeShapes Go.WideShapes Go.ChangeAt Go.RowKit

theorem call_bits (x : Nat) (w : World) : (callFunc 44 #[.float .f64 x]).run Tryz.prog w = .ok (.value (.int .u64 (x : Int))) w := by
  rw [run_callFunc_extern Tryz.func44 (by kernel_rfl) (by kernel_rfl) (by kernel_rfl) (e := Extern.MathFloatBits.float64bits) (by kernel_rfl), run_bits]
  rfl
set_option maxRecDepth 20000 in
set_option maxHeartbeats 8000000 in
theorem sameT_calls {w : World} {a b : Option Addr} {l : List Tg} (h1 : TgsAt w a l) (h2 : TgsAt w b l) (n c1 c2 : Nat) (hn : l.length = n) (hx : n ≤ maxLen) :
    Calls Tryz.prog 24 #[.slice a n c1, .slice b n c2] w fun e w' => e = .returned (.bool true) ∧ Below w.heap.size w w' := by
  have H1 := hide h1
  have H2 := hide h2
  have HN := hide hn
  simp only [maxLen] at hx
  clear h1 h2 hn
  have hbits := call_bits
  go_enter Tryz.func24, Tryz.ntmps24
  go_wp2_with fail
  go_loopw [5] (fun i wr => ∃ j : Nat, j ≤ n ∧ i = .int .i64 (j : Int) ∧ Hid (Below w.heap.size w wr)) (fun i _ => n - (intOf i).toNat)
  case atStart => exact ⟨0, by omega, rfl, hide (Below.refl _ _)⟩
  case round =>
    obtain ⟨j, hj, rfl, B⟩ := hrel
    by_cases hjn : j < n
    · have y0 : (0 : Int) ≤ (j : Int) := by omega
      have y1 : (j : Int) < (n : Int) := by omega
      have hjl : j < l.length := by rw [unhide HN]; exact hjn
      obtain ⟨b1, o1, rfl, q0, q1⟩ := (unhide H1).cell j hjl
      obtain ⟨b2, o2, rfl, r0, r1⟩ := (unhide H2).cell j hjl
      have p0 := cell_later (unhide B) q0
      have p1 := cell_later (unhide B) q1
      have s0 := cell_later (unhide B) r0
      have s1 := cell_later (unhide B) r1
      generalize l[j] = t at *
      obtain ⟨s, x⟩ := t
      simp only at p0 p1 s0 s1
      have hss : (s.toList == s.toList) = true := by simp
      have BD := hide (show ∀ k, Below w.heap.size w (wr.drewN k) from fun k => ⟨(unhide B).os, (unhide B).tape, (unhide B).output, (unhide B).size, (unhide B).block⟩)
      clear q0 q1 r0 r1
      go_wp2_with fail
      go_quiet (fail)
      go_wp2
      exact ⟨⟨j + 1, by omega, by go_num, unhide BD _⟩, by simp [intOf]; omega⟩
    · have hjj : ¬ (j : Int) < (n : Int) := by omega
      obtain rfl : j = n := by omega
      go_wp2
      go_ret
      exact ⟨rfl, unhide B⟩
set_option maxRecDepth 20000 in
set_option maxHeartbeats 8000000 in
theorem sameC_calls {w : World} {e : Cf} {h1 h2 : CfH} (hc1 : CfAt w e h1) (hc2 : CfAt w e h2) :
    Calls Tryz.prog 13 #[cfVal e h1, cfVal e h2] w fun r w' => r = .returned (.bool true) ∧ Below w.heap.size w w' := by
  unfold cfVal
  have b1 : Below w.heap.size w (w.alloc (.cells #[.int .i64 e.ver, .slice h1.ra e.rs.length h1.rc, .slice h1.pa e.ps.length h1.pc] 28)) := (Below.refl _ _).alloc (Nat.le_refl _) _
  have b2 := b1.alloc b1.size (.cells #[.int .i64 e.ver, .slice h2.ra e.rs.length h2.rc, .slice h2.pa e.ps.length h2.pc] 28)
  have s1 : (w.alloc (.cells #[.int .i64 e.ver, .slice h1.ra e.rs.length h1.rc, .slice h1.pa e.ps.length h1.pc] 28)).heap.size = w.heap.size + 1 := by simp
  have X1 := hide (show ((w.alloc (.cells #[.int .i64 e.ver, .slice h1.ra e.rs.length h1.rc, .slice h1.pa e.ps.length h1.pc] 28)).alloc (.cells #[.int .i64 e.ver, .slice h2.ra e.rs.length h2.rc, .slice h2.pa e.ps.length h2.pc] 28)).heap[w.heap.size]? = some (.cells #[.int .i64 e.ver, .slice h1.ra e.rs.length h1.rc, .slice h1.pa e.ps.length h1.pc] 28 (0, 0)) by rw [Below.heap_alloc _ _ _ (by simp)]; exact heap_new _ _)
  have X2 := hide (show ((w.alloc (.cells #[.int .i64 e.ver, .slice h1.ra e.rs.length h1.rc, .slice h1.pa e.ps.length h1.pc] 28)).alloc (.cells #[.int .i64 e.ver, .slice h2.ra e.rs.length h2.rc, .slice h2.pa e.ps.length h2.pc] 28)).heap[w.heap.size + 1]? = some (.cells #[.int .i64 e.ver, .slice h2.ra e.rs.length h2.rc, .slice h2.pa e.ps.length h2.pc] 28 (0, 0)) by rw [← s1]; exact heap_new _ _)
  have B2 := hide b2
  have R1 := hide hc1.rts
  have R2 := hide hc2.rts
  have P1 := hide hc1.pos
  have P2 := hide hc2.pos
  have hrl := hc1.rl.1
  have hpl := hc1.pl.1
  obtain ⟨ver, rs, ps⟩ := e
  obtain ⟨ra1, rc1, pa1, pc1⟩ := h1
  obtain ⟨ra2, rc2, pa2, pc2⟩ := h2
  simp only at *
  simp only [maxLen] at hrl hpl
  generalize hn : rs.length = n at *
  generalize hm : ps.length = m at *
  have HN := hide hn
  have HM := hide hm
  clear hc1 hc2 b1 b2 s1 hn hm
  have k10 := fcell0 (unhide X1) 0 _ rfl
  have k11 := fcell0 (unhide X1) 1 _ rfl
  have k12 := fcell0 (unhide X1) 2 _ rfl
  have k20 := fcell0 (unhide X2) 0 _ rfl
  have k21 := fcell0 (unhide X2) 1 _ rfl
  have k22 := fcell0 (unhide X2) 2 _ rfl
  go_enter Tryz.func13, Tryz.ntmps13
  go_wp2_with fail
  generalize ((w.alloc (.cells #[.int .i64 ver, .slice ra1 n rc1, .slice pa1 m pc1] 28)).alloc (.cells #[.int .i64 ver, .slice ra2 n rc2, .slice pa2 m pc2] 28)) = W2 at *
  go_loopw [5] (fun i wr => ∃ j : Nat, j ≤ m ∧ i = .int .i64 (j : Int) ∧ Hid (Below W2.heap.size W2 wr)) (fun i _ => m - (intOf i).toNat)
  case atStart => exact ⟨0, by omega, rfl, hide (Below.refl _ _)⟩
  case round =>
    obtain ⟨j, hj, rfl, B⟩ := hrel
    have F := hide ((unhide B2).trans ((unhide B).mono (unhide B2).size))
    by_cases hjn : j < m
    · have y0 : (0 : Int) ≤ (j : Int) := by omega
      have y1 : (j : Int) < (m : Int) := by omega
      have hjl : j < ps.length := by rw [unhide HM]; exact hjn
      obtain ⟨g1, o1, ta1, tc1, rfl, q0, q1, T1, hl1, _⟩ := (unhide P1).cell j hjl
      obtain ⟨g2, o2, ta2, tc2, rfl, r0, r1, T2, hl2, _⟩ := (unhide P2).cell j hjl
      have p12 := cell_later (unhide B) k12
      have p22 := cell_later (unhide B) k22
      have p0 := cell_later (unhide F) q0
      have p1 := cell_later (unhide F) q1
      have s0 := cell_later (unhide F) r0
      have s1 := cell_later (unhide F) r1
      have BD := hide (show Below w.heap.size w wr.drew from (unhide F).drew)
      have BW := hide (show Below W2.heap.size W2 wr.drew from (unhide B).drew)
      have ST := hide (fun W (hb : Below w.heap.size w W) => sameT_calls (T1.later hb) (T2.later hb) ps[j].ts.length tc1 tc2 rfl hl1.1)
      generalize ps[j].ts.length = tl at *
      generalize ps[j].nm = nm at *
      have hss : (nm.toList == nm.toList) = true := by simp
      have KP := hide (show ∀ W : World, Below wr.heap.size wr W → W.cell? ⟨w.heap.size, 2, none⟩ = some (.slice (some ⟨g1, o1, none⟩) m pc1) ∧ W.cell? ⟨w.heap.size + 1, 2, none⟩ = some (.slice (some ⟨g2, o2, none⟩) m pc2) ∧ W.cell? ⟨g1, o1 + j * 2, none⟩ = some (.string nm) ∧ W.cell? ⟨g2, o2 + j * 2, none⟩ = some (.string nm) ∧ W.cell? ⟨g1, o1 + j * 2 + 1, none⟩ = some (.slice ta1 tl tc1) ∧ W.cell? ⟨g2, o2 + j * 2 + 1, none⟩ = some (.slice ta2 tl tc2) from fun W hb => ⟨cell_later hb p12, cell_later hb p22, cell_later hb p0, cell_later hb s0, cell_later hb p1, cell_later hb s1⟩)
      clear q0 q1 r0 r1 T1 T2 hl1 hl2
      go_wp2_with fail
      refine wp_region_held_drew (S := fun w' => w'.cell? ⟨w.heap.size, 2, none⟩ = some (.slice (some ⟨g1, o1, none⟩) m pc1) ∧ w'.cell? ⟨w.heap.size + 1, 2, none⟩ = some (.slice (some ⟨g2, o2, none⟩) m pc2) ∧ w'.cell? ⟨g1, o1 + j * 2, none⟩ = some (.string nm) ∧ w'.cell? ⟨g2, o2 + j * 2, none⟩ = some (.string nm) ∧ w'.cell? ⟨g1, o1 + j * 2 + 1, none⟩ = some (.slice ta1 tl tc1) ∧ w'.cell? ⟨g2, o2 + j * 2 + 1, none⟩ = some (.slice ta2 tl tc2)) (by kernel_rfl) ?_ (fun hHeld => ?_)
      · try dsimp only
        first | (have hV : B7 = B7 := rfl; clear hV; exact unhide KP _ (unhide B7)) | exact ⟨p12, p22, p0, s0, p1, s1⟩
      refine held_take 0 (oi := { dst := some 37, op := Op.fieldAddr 28 (Operand.tmp 2) 2, type := 0, pos := "ref.go:524", after := #[], guard := none }) (v := ?_) (by kernel_rfl) rfl (by rfl) (by kernel_rfl) (by kernel_rfl) (fun _ _ _ h => h) ?_ (by assumption) ?_
      rotate_left
      · (intro w hSw; (try dsimp only at hSw); go_simp; try with_reducible rfl)
      try simp only [Act.put, List.setIfInBounds_toArray, List.set_cons_zero, List.set_cons_succ]
      refine held_take 1 (oi := { dst := some 38, op := Op.load 26 (Operand.tmp 37), type := 26, pos := "ref.go:524", after := #[{ on := 0, ground := Ground.data }], guard := none }) (v := ?_) (by kernel_rfl) rfl (by rfl) (by kernel_rfl) (by kernel_rfl) (fun _ _ _ h => h) ?_ (by assumption) ?_
      rotate_left
      · (intro w hSw; (try dsimp only at hSw); go_simp; try with_reducible rfl)
      try simp only [Act.put, List.setIfInBounds_toArray, List.set_cons_zero, List.set_cons_succ]
      refine held_take 2 (oi := { dst := some 39, op := Op.move (Operand.tmp 5), type := 3, pos := "ref.go:524", after := #[], guard := none }) (v := ?_) (by kernel_rfl) rfl (by rfl) (by kernel_rfl) (by kernel_rfl) (fun _ _ _ h => h) ?_ (by assumption) ?_
      rotate_left
      · (intro w hSw; (try dsimp only at hSw); go_simp; try with_reducible rfl)
      try simp only [Act.put, List.setIfInBounds_toArray, List.set_cons_zero, List.set_cons_succ]
      refine held_take 3 (oi := { dst := some 40, op := Op.indexAddr 26 (Operand.tmp 38) (Operand.tmp 39), type := 0, pos := "ref.go:524", after := #[{ on := 1, ground := Ground.data }, { on := 2, ground := Ground.data }], guard := none }) (v := ?_) (by kernel_rfl) rfl (by rfl) (by kernel_rfl) (by kernel_rfl) (fun _ _ _ h => h) ?_ (by assumption) ?_
      rotate_left
      · (intro w hSw; (try dsimp only at hSw); go_simp; try with_reducible rfl)
      try simp only [Act.put, List.setIfInBounds_toArray, List.set_cons_zero, List.set_cons_succ]
      refine held_take 4 (oi := { dst := some 41, op := Op.fieldAddr 39 (Operand.tmp 40) 0, type := 0, pos := "ref.go:524", after := #[{ on := 3, ground := Ground.data }], guard := none }) (v := ?_) (by kernel_rfl) rfl (by rfl) (by kernel_rfl) (by kernel_rfl) (fun _ _ _ h => h) ?_ (by assumption) ?_
      rotate_left
      · (intro w hSw; (try dsimp only at hSw); go_simp; try with_reducible rfl)
      try simp only [Act.put, List.setIfInBounds_toArray, List.set_cons_zero, List.set_cons_succ]
      refine held_take 5 (oi := { dst := some 42, op := Op.load 9 (Operand.tmp 41), type := 9, pos := "ref.go:524", after := #[{ on := 4, ground := Ground.data }], guard := none }) (v := ?_) (by kernel_rfl) rfl (by rfl) (by kernel_rfl) (by kernel_rfl) (fun _ _ _ h => h) ?_ (by assumption) ?_
      rotate_left
      · (intro w hSw; (try dsimp only at hSw); go_simp; try with_reducible rfl)
      try simp only [Act.put, List.setIfInBounds_toArray, List.set_cons_zero, List.set_cons_succ]
      refine held_take 6 (oi := { dst := some 43, op := Op.fieldAddr 28 (Operand.tmp 3) 2, type := 0, pos := "ref.go:524", after := #[], guard := none }) (v := ?_) (by kernel_rfl) rfl (by rfl) (by kernel_rfl) (by kernel_rfl) (fun _ _ _ h => h) ?_ (by assumption) ?_
      rotate_left
      · (intro w hSw; (try dsimp only at hSw); go_simp; try with_reducible rfl)
      try simp only [Act.put, List.setIfInBounds_toArray, List.set_cons_zero, List.set_cons_succ]
      refine held_take 7 (oi := { dst := some 44, op := Op.load 26 (Operand.tmp 43), type := 26, pos := "ref.go:524", after := #[{ on := 6, ground := Ground.data }], guard := none }) (v := ?_) (by kernel_rfl) rfl (by rfl) (by kernel_rfl) (by kernel_rfl) (fun _ _ _ h => h) ?_ (by assumption) ?_
      rotate_left
      · (intro w hSw; (try dsimp only at hSw); go_simp; try with_reducible rfl)
      try simp only [Act.put, List.setIfInBounds_toArray, List.set_cons_zero, List.set_cons_succ]
      refine held_take 8 (oi := { dst := some 45, op := Op.move (Operand.tmp 5), type := 3, pos := "ref.go:524", after := #[], guard := none }) (v := ?_) (by kernel_rfl) rfl (by rfl) (by kernel_rfl) (by kernel_rfl) (fun _ _ _ h => h) ?_ (by assumption) ?_
      rotate_left
      · (intro w hSw; (try dsimp only at hSw); go_simp; try with_reducible rfl)
      try simp only [Act.put, List.setIfInBounds_toArray, List.set_cons_zero, List.set_cons_succ]
      refine held_take 9 (oi := { dst := some 46, op := Op.indexAddr 26 (Operand.tmp 44) (Operand.tmp 45), type := 0, pos := "ref.go:524", after := #[{ on := 7, ground := Ground.data }, { on := 8, ground := Ground.data }], guard := none }) (v := ?_) (by kernel_rfl) rfl (by rfl) (by kernel_rfl) (by kernel_rfl) (fun _ _ _ h => h) ?_ (by assumption) ?_
      rotate_left
      · (intro w hSw; (try dsimp only at hSw); go_simp; try with_reducible rfl)
      try simp only [Act.put, List.setIfInBounds_toArray, List.set_cons_zero, List.set_cons_succ]
      refine held_take 10 (oi := { dst := some 47, op := Op.fieldAddr 39 (Operand.tmp 46) 0, type := 0, pos := "ref.go:524", after := #[{ on := 9, ground := Ground.data }], guard := none }) (v := ?_) (by kernel_rfl) rfl (by rfl) (by kernel_rfl) (by kernel_rfl) (fun _ _ _ h => h) ?_ (by assumption) ?_
      rotate_left
      · (intro w hSw; (try dsimp only at hSw); go_simp; try with_reducible rfl)
      try simp only [Act.put, List.setIfInBounds_toArray, List.set_cons_zero, List.set_cons_succ]
      refine held_take 11 (oi := { dst := some 48, op := Op.load 9 (Operand.tmp 47), type := 9, pos := "ref.go:524", after := #[{ on := 10, ground := Ground.data }], guard := none }) (v := ?_) (by kernel_rfl) rfl (by rfl) (by kernel_rfl) (by kernel_rfl) (fun _ _ _ h => h) ?_ (by assumption) ?_
      rotate_left
      · (intro w hSw; (try dsimp only at hSw); go_simp; try with_reducible rfl)
      try simp only [Act.put, List.setIfInBounds_toArray, List.set_cons_zero, List.set_cons_succ]
      refine held_take 12 (oi := { dst := some 49, op := Op.binOp BinOp.neq 9 (Operand.tmp 42) (Operand.tmp 48) 9, type := 4, pos := "ref.go:524", after := #[{ on := 5, ground := Ground.data }, { on := 11, ground := Ground.data }], guard := none }) (v := ?_) (by kernel_rfl) rfl (by rfl) (by kernel_rfl) (by kernel_rfl) (fun _ _ _ h => h) ?_ (by assumption) ?_
      rotate_left
      · (intro w hSw; (try dsimp only at hSw); go_simp; try with_reducible rfl)
      try simp only [Act.put, List.setIfInBounds_toArray, List.set_cons_zero, List.set_cons_succ]
      refine held_take 13 (oi := { dst := some 50, op := Op.move (Operand.tmp 49), type := 4, pos := "ref.go:524", after := #[{ on := 12, ground := Ground.data }], guard := none }) (v := ?_) (by kernel_rfl) rfl (by rfl) (by kernel_rfl) (by kernel_rfl) (fun _ _ _ h => h) ?_ (by assumption) ?_
      rotate_left
      · (intro w hSw; (try dsimp only at hSw); go_simp; try with_reducible rfl)
      try simp only [Act.put, List.setIfInBounds_toArray, List.set_cons_zero, List.set_cons_succ]
      refine held_take 14 (oi := { dst := some 51, op := Op.fieldAddr 28 (Operand.tmp 2) 2, type := 0, pos := "ref.go:524", after := #[{ on := 13, ground := Ground.guard }], guard := some (13, false) }) (v := ?_) (by kernel_rfl) rfl (by rfl) (by kernel_rfl) (by kernel_rfl) (fun _ _ _ h => h) ?_ (by assumption) ?_
      rotate_left
      · (intro w hSw; (try dsimp only at hSw); go_simp; try with_reducible rfl)
      try simp only [Act.put, List.setIfInBounds_toArray, List.set_cons_zero, List.set_cons_succ]
      refine held_take 15 (oi := { dst := some 52, op := Op.load 26 (Operand.tmp 51), type := 26, pos := "ref.go:524", after := #[{ on := 14, ground := Ground.data }, { on := 13, ground := Ground.guard }], guard := some (13, false) }) (v := ?_) (by kernel_rfl) rfl (by rfl) (by kernel_rfl) (by kernel_rfl) (fun _ _ _ h => h) ?_ (by assumption) ?_
      rotate_left
      · (intro w hSw; (try dsimp only at hSw); go_simp; try with_reducible rfl)
      try simp only [Act.put, List.setIfInBounds_toArray, List.set_cons_zero, List.set_cons_succ]
      refine held_take 16 (oi := { dst := some 53, op := Op.move (Operand.tmp 5), type := 3, pos := "ref.go:524", after := #[{ on := 13, ground := Ground.guard }], guard := some (13, false) }) (v := ?_) (by kernel_rfl) rfl (by rfl) (by kernel_rfl) (by kernel_rfl) (fun _ _ _ h => h) ?_ (by assumption) ?_
      rotate_left
      · (intro w hSw; (try dsimp only at hSw); go_simp; try with_reducible rfl)
      try simp only [Act.put, List.setIfInBounds_toArray, List.set_cons_zero, List.set_cons_succ]
      refine held_take 17 (oi := { dst := some 54, op := Op.indexAddr 26 (Operand.tmp 52) (Operand.tmp 53), type := 0, pos := "ref.go:524", after := #[{ on := 15, ground := Ground.data }, { on := 16, ground := Ground.data }, { on := 13, ground := Ground.guard }], guard := some (13, false) }) (v := ?_) (by kernel_rfl) rfl (by rfl) (by kernel_rfl) (by kernel_rfl) (fun _ _ _ h => h) ?_ (by assumption) ?_
      rotate_left
      · (intro w hSw; (try dsimp only at hSw); go_simp; try with_reducible rfl)
      try simp only [Act.put, List.setIfInBounds_toArray, List.set_cons_zero, List.set_cons_succ]
      refine held_take 18 (oi := { dst := some 55, op := Op.fieldAddr 39 (Operand.tmp 54) 1, type := 0, pos := "ref.go:524", after := #[{ on := 17, ground := Ground.data }, { on := 13, ground := Ground.guard }], guard := some (13, false) }) (v := ?_) (by kernel_rfl) rfl (by rfl) (by kernel_rfl) (by kernel_rfl) (fun _ _ _ h => h) ?_ (by assumption) ?_
      rotate_left
      · (intro w hSw; (try dsimp only at hSw); go_simp; try with_reducible rfl)
      try simp only [Act.put, List.setIfInBounds_toArray, List.set_cons_zero, List.set_cons_succ]
      refine held_take 19 (oi := { dst := some 56, op := Op.load 37 (Operand.tmp 55), type := 37, pos := "ref.go:524", after := #[{ on := 18, ground := Ground.data }, { on := 13, ground := Ground.guard }], guard := some (13, false) }) (v := ?_) (by kernel_rfl) rfl (by rfl) (by kernel_rfl) (by kernel_rfl) (fun _ _ _ h => h) ?_ (by assumption) ?_
      rotate_left
      · (intro w hSw; (try dsimp only at hSw); go_simp; try with_reducible rfl)
      try simp only [Act.put, List.setIfInBounds_toArray, List.set_cons_zero, List.set_cons_succ]
      refine held_take 20 (oi := { dst := some 57, op := Op.fieldAddr 28 (Operand.tmp 3) 2, type := 0, pos := "ref.go:524", after := #[{ on := 13, ground := Ground.guard }], guard := some (13, false) }) (v := ?_) (by kernel_rfl) rfl (by rfl) (by kernel_rfl) (by kernel_rfl) (fun _ _ _ h => h) ?_ (by assumption) ?_
      rotate_left
      · (intro w hSw; (try dsimp only at hSw); go_simp; try with_reducible rfl)
      try simp only [Act.put, List.setIfInBounds_toArray, List.set_cons_zero, List.set_cons_succ]
      refine held_take 21 (oi := { dst := some 58, op := Op.load 26 (Operand.tmp 57), type := 26, pos := "ref.go:524", after := #[{ on := 20, ground := Ground.data }, { on := 13, ground := Ground.guard }], guard := some (13, false) }) (v := ?_) (by kernel_rfl) rfl (by rfl) (by kernel_rfl) (by kernel_rfl) (fun _ _ _ h => h) ?_ (by assumption) ?_
      rotate_left
      · (intro w hSw; (try dsimp only at hSw); go_simp; try with_reducible rfl)
      try simp only [Act.put, List.setIfInBounds_toArray, List.set_cons_zero, List.set_cons_succ]
      refine held_take 22 (oi := { dst := some 59, op := Op.move (Operand.tmp 5), type := 3, pos := "ref.go:524", after := #[{ on := 13, ground := Ground.guard }], guard := some (13, false) }) (v := ?_) (by kernel_rfl) rfl (by rfl) (by kernel_rfl) (by kernel_rfl) (fun _ _ _ h => h) ?_ (by assumption) ?_
      rotate_left
      · (intro w hSw; (try dsimp only at hSw); go_simp; try with_reducible rfl)
      try simp only [Act.put, List.setIfInBounds_toArray, List.set_cons_zero, List.set_cons_succ]
      refine held_take 23 (oi := { dst := some 60, op := Op.indexAddr 26 (Operand.tmp 58) (Operand.tmp 59), type := 0, pos := "ref.go:524", after := #[{ on := 21, ground := Ground.data }, { on := 22, ground := Ground.data }, { on := 13, ground := Ground.guard }], guard := some (13, false) }) (v := ?_) (by kernel_rfl) rfl (by rfl) (by kernel_rfl) (by kernel_rfl) (fun _ _ _ h => h) ?_ (by assumption) ?_
      rotate_left
      · (intro w hSw; (try dsimp only at hSw); go_simp; try with_reducible rfl)
      try simp only [Act.put, List.setIfInBounds_toArray, List.set_cons_zero, List.set_cons_succ]
      refine held_take 24 (oi := { dst := some 61, op := Op.fieldAddr 39 (Operand.tmp 60) 1, type := 0, pos := "ref.go:524", after := #[{ on := 23, ground := Ground.data }, { on := 13, ground := Ground.guard }], guard := some (13, false) }) (v := ?_) (by kernel_rfl) rfl (by rfl) (by kernel_rfl) (by kernel_rfl) (fun _ _ _ h => h) ?_ (by assumption) ?_
      rotate_left
      · (intro w hSw; (try dsimp only at hSw); go_simp; try with_reducible rfl)
      try simp only [Act.put, List.setIfInBounds_toArray, List.set_cons_zero, List.set_cons_succ]
      refine held_take 25 (oi := { dst := some 62, op := Op.load 37 (Operand.tmp 61), type := 37, pos := "ref.go:524", after := #[{ on := 24, ground := Ground.data }, { on := 13, ground := Ground.guard }], guard := some (13, false) }) (v := ?_) (by kernel_rfl) rfl (by rfl) (by kernel_rfl) (by kernel_rfl) (fun _ _ _ h => h) ?_ (by assumption) ?_
      rotate_left
      · (intro w hSw; (try dsimp only at hSw); go_simp; try with_reducible rfl)
      try simp only [Act.put, List.setIfInBounds_toArray, List.set_cons_zero, List.set_cons_succ]
      refine held_one 26 (oi := { dst := some 63, op := Op.call { callee := Callee.value (Operand.func 24), args := #[Operand.tmp 56, Operand.tmp 62], argTypes := #[37, 37] }, type := 4, pos := "ref.go:524", after := #[{ on := 19, ground := Ground.data }, { on := 25, ground := Ground.data }, { on := 13, ground := Ground.chain }, { on := 13, ground := Ground.guard }], guard := some (13, false) }) (by kernel_rfl) rfl (fun K hK => ?_)
      go_simp
      first
        | (go_at_call 24
           refine (unhide ST _ (unhide BD)).mono ?_
           rintro e V1 ⟨rfl, v1⟩
           have B7 := hide (show Below wr.heap.size wr V1 from ⟨v1.os, v1.tape, v1.output, v1.size, v1.block⟩)
           have B8 := hide ((unhide B).trans ((unhide B7).mono (unhide B).size))
           clear v1)
      go_wp2_with fail
      refine hK.out _ _ ?_ (fun hHeld => ?_)
      · try dsimp only
        first | (have hV : B7 = B7 := rfl; clear hV; exact unhide KP _ (unhide B7)) | exact ⟨p12, p22, p0, s0, p1, s1⟩
      clear hK K
      try simp only [Act.put, List.setIfInBounds_toArray, List.set_cons_zero, List.set_cons_succ]
      refine held_take 27 (oi := { dst := some 64, op := Op.unOp UnOp.not 4 (Operand.tmp 63), type := 4, pos := "ref.go:524", after := #[{ on := 26, ground := Ground.data }, { on := 13, ground := Ground.guard }], guard := some (13, false) }) (v := ?_) (by kernel_rfl) rfl (by rfl) (by kernel_rfl) (by kernel_rfl) (fun _ _ _ h => h) ?_ (by assumption) ?_
      rotate_left
      · (intro w hSw; (try dsimp only at hSw); go_simp; try with_reducible rfl)
      try simp only [Act.put, List.setIfInBounds_toArray, List.set_cons_zero, List.set_cons_succ]
      refine held_take 28 (oi := { dst := some 65, op := Op.pick (Operand.tmp 50) (Operand.const (Value.bool true)) (Operand.tmp 64), type := 4, pos := "ref.go:524", after := #[{ on := 13, ground := Ground.data }, { on := 27, ground := Ground.data }], guard := none }) (v := ?_) (by kernel_rfl) rfl (by rfl) (by kernel_rfl) (by kernel_rfl) (fun _ _ _ h => h) ?_ (by assumption) ?_
      rotate_left
      · (intro w hSw; (try dsimp only at hSw); go_simp; try with_reducible rfl)
      try simp only [Act.put, List.setIfInBounds_toArray, List.set_cons_zero, List.set_cons_succ]
      refine wpAnyH_done (by kernel_rfl) ?_ _
      go_wp2
      exact ⟨⟨j + 1, by omega, by go_num, unhide B8⟩, by simp [intOf]; omega⟩
    · have hjj : ¬ (j : Int) < (m : Int) := by omega
      obtain rfl : j = m := by omega
      have p12 := cell_later (unhide B) k12
      go_wp2_with fail
      go_loopw [6] (fun i wr => ∃ j2 : Nat, j2 ≤ n ∧ i = .int .i64 (j2 : Int) ∧ Hid (Below W2.heap.size W2 wr)) (fun i _ => n - (intOf i).toNat)
      case atStart => exact ⟨0, by omega, rfl, B⟩
      case round =>
        obtain ⟨j2, hj2, rfl, B'⟩ := hrel
        have F' := hide ((unhide B2).trans ((unhide B').mono (unhide B2).size))
        have p11 := cell_later (unhide B') k11
        have p21 := cell_later (unhide B') k21
        by_cases hjn2 : j2 < n
        · have y0 : (0 : Int) ≤ (j2 : Int) := by omega
          have y1 : (j2 : Int) < (n : Int) := by omega
          have hjl : j2 < rs.length := by rw [unhide HN]; exact hjn2
          obtain ⟨g1, o1, rfl, q0, q1, q2⟩ := (unhide R1).cell j2 hjl
          obtain ⟨g2, o2, rfl, r0, r1, r2⟩ := (unhide R2).cell j2 hjl
          have a0 := cell_later (unhide F') q0
          have a1 := cell_later (unhide F') q1
          have a2 := cell_later (unhide F') q2
          have d0 := cell_later (unhide F') r0
          have d1 := cell_later (unhide F') r1
          have d2 := cell_later (unhide F') r2
          generalize rs[j2] = r at *
          obtain ⟨rh, rp, rl⟩ := r
          simp only at a0 a1 a2 d0 d1 d2
          have BD := hide (show ∀ k, Below W2.heap.size W2 (wr.drewN k) from fun k => ⟨(unhide B').os, (unhide B').tape, (unhide B').output, (unhide B').size, (unhide B').block⟩)
          clear q0 q1 q2 r0 r1 r2
          go_wp2_with fail
          go_quiet (fail)
          go_wp2
          exact ⟨⟨j2 + 1, by omega, by go_num, unhide BD _⟩, by simp [intOf]; omega⟩
        · have hjj2 : ¬ (j2 : Int) < (n : Int) := by omega
          obtain rfl : j2 = n := by omega
          go_wp2
          go_ret
          exact ⟨rfl, unhide F'⟩
end Go.Proofs.YtcmiappiocfbiaaGreatDoor
end
/- Plane: no plane. -/
section
namespace Go.Proofs.YtcmiappiocfbiaaGreatDoor
open Go.ChangeShapes Go.WideShapes Go.ChangeAt Go.RowKit

theorem confN (w : World) : CfAt w ⟨0, [], []⟩ ⟨none, 0, none, 0⟩ := ⟨by simp, ⟨by simp, by simp⟩, ⟨by simp⟩, ⟨by simp, by simp⟩, ⟨by simp, by simp⟩, fun _ => rfl⟩
end Go.Proofs.YtcmiappiocfbiaaGreatDoor
end
/- Plane: Serve of a plane. -/
section
namespace Go.Proofs.YtcmiappiocfbiaaGreatDoor
open Go.ChangeShapes Go.WideShapes Go.ChangeAt Go.RowKit
set_option linter.unusedVariables false

/-- A plane with its configuration. -/
structure PlAt (w : World) (P : Nat) (e : Cf) (h : CfH) : Prop where
  row : w.heap[P]? = some (.cells #[.int .i64 e.ver, .slice h.ra e.rs.length h.rc, .slice h.pa e.ps.length h.pc] 54 (0, 0))
  cf : CfAt w e h
theorem PlAt.later {w w' : World} {P : Nat} {e : Cf} {h : CfH} (x : PlAt w P e h) (hb : Below w.heap.size w w') : PlAt w' P e h := ⟨later_block hb x.row, x.cf.later hb⟩
set_option maxRecDepth 20000 in
set_option maxHeartbeats 8000000 in
theorem serve_calls {w : World} {P : Nat} {e : Cf} {h : CfH} (hp : PlAt w P e h) (ht : ∀ y ∈ e.ps, y.ts.length ≤ 1000) (ba : Option Addr) (bc d : Nat) (l : List Nat) (hb : BytesAt w ba l) (hc : l.length ≤ bc) (hz : ba = none → bc = 0) (hL : Lz w) (hd : d < 18446744073709551616) :
    Calls Tryz.prog 10 #[.pointer (some ⟨P, 0, none⟩), .slice ba l.length bc, .float .f64 d] w fun r w' => r = .returned (.agg #[.int .i64 (serveL l e.rs e.ps d).1, .int .i64 e.ver, .string (serveL l e.rs e.ps d).2.1, .string (serveL l e.rs e.ps d).2.2]) ∧ Below w.heap.size w w' := by
  obtain ⟨row, cf⟩ := hp
  obtain ⟨ver, rs, ps⟩ := e
  obtain ⟨ra, rc, pa, pc⟩ := h
  obtain ⟨wv, rts, pos, ⟨rl, rl2⟩, ⟨pl, pl2⟩, rz⟩ := cf
  dsimp only at *
  have hP := (Array.getElem?_eq_some_iff.1 row).1
  have b1 : Below w.heap.size w (w.alloc (.cells #[.int .i64 0, .int .i64 0, .string ⟨#[]⟩, .string ⟨#[]⟩] 43)) := (Below.refl _ _).alloc (Nat.le_refl _) _
  have y1 := heap_new w (.cells #[.int .i64 0, .int .i64 0, .string ⟨#[]⟩, .string ⟨#[]⟩] 43)
  have s1 : (w.alloc (.cells #[.int .i64 0, .int .i64 0, .string ⟨#[]⟩, .string ⟨#[]⟩] 43)).heap.size = w.heap.size + 1 := by simp
  generalize hW1 : w.alloc (.cells #[.int .i64 0, .int .i64 0, .string ⟨#[]⟩, .string ⟨#[]⟩] 43) = W1 at *
  have row1 := later_block b1 row
  have q0 := box_cell row1 0 _ rfl
  have q1 := box_cell row1 1 _ rfl
  have q2 := box_cell row1 2 _ rfl
  have hw1 : w.alloc (.cells #[.int .i64 0, .int .i64 0, .string ⟨#[]⟩, .string ⟨#[]⟩] 43) = W1 := hW1
  clear hW1
  have y2 := heap_new W1 (.cells (ansC ver ra rs.length rc pa ps.length pc ba l.length bc d ⟨#[]⟩ ⟨#[]⟩ ⟨#[]⟩ ⟨#[]⟩ none 0 0 0 0 ⟨#[]⟩ ⟨#[]⟩) 60)
  rw [s1] at y2
  have b2 : Below W1.heap.size W1 (W1.alloc (.cells (ansC ver ra rs.length rc pa ps.length pc ba l.length bc d ⟨#[]⟩ ⟨#[]⟩ ⟨#[]⟩ ⟨#[]⟩ none 0 0 0 0 ⟨#[]⟩ ⟨#[]⟩) 60)) := (Below.refl _ _).alloc (Nat.le_refl _) _
  have s2 : (W1.alloc (.cells (ansC ver ra rs.length rc pa ps.length pc ba l.length bc d ⟨#[]⟩ ⟨#[]⟩ ⟨#[]⟩ ⟨#[]⟩ none 0 0 0 0 ⟨#[]⟩ ⟨#[]⟩) 60)).heap.size = w.heap.size + 1 + 1 := by rw [← s1]; simp
  have y3 := heap_new (W1.alloc (.cells (ansC ver ra rs.length rc pa ps.length pc ba l.length bc d ⟨#[]⟩ ⟨#[]⟩ ⟨#[]⟩ ⟨#[]⟩ none 0 0 0 0 ⟨#[]⟩ ⟨#[]⟩) 60)) (.cells #[.func (.func 18) #[.pointer (some ⟨w.heap.size + 1, 0, none⟩)] #[], .func (.func 19) #[.pointer (some ⟨w.heap.size + 1, 0, none⟩)] #[], .func (.func 20) #[.pointer (some ⟨w.heap.size + 1, 0, none⟩)] #[]] 46)
  rw [s2] at y3
  have b3 : Below (W1.alloc (.cells (ansC ver ra rs.length rc pa ps.length pc ba l.length bc d ⟨#[]⟩ ⟨#[]⟩ ⟨#[]⟩ ⟨#[]⟩ none 0 0 0 0 ⟨#[]⟩ ⟨#[]⟩) 60)).heap.size (W1.alloc (.cells (ansC ver ra rs.length rc pa ps.length pc ba l.length bc d ⟨#[]⟩ ⟨#[]⟩ ⟨#[]⟩ ⟨#[]⟩ none 0 0 0 0 ⟨#[]⟩ ⟨#[]⟩) 60)) ((W1.alloc (.cells (ansC ver ra rs.length rc pa ps.length pc ba l.length bc d ⟨#[]⟩ ⟨#[]⟩ ⟨#[]⟩ ⟨#[]⟩ none 0 0 0 0 ⟨#[]⟩ ⟨#[]⟩) 60)).alloc (.cells #[.func (.func 18) #[.pointer (some ⟨w.heap.size + 1, 0, none⟩)] #[], .func (.func 19) #[.pointer (some ⟨w.heap.size + 1, 0, none⟩)] #[], .func (.func 20) #[.pointer (some ⟨w.heap.size + 1, 0, none⟩)] #[]] 46)) := (Below.refl _ _).alloc (Nat.le_refl _) _
  have B3 : Below w.heap.size w ((W1.alloc (.cells (ansC ver ra rs.length rc pa ps.length pc ba l.length bc d ⟨#[]⟩ ⟨#[]⟩ ⟨#[]⟩ ⟨#[]⟩ none 0 0 0 0 ⟨#[]⟩ ⟨#[]⟩) 60)).alloc (.cells #[.func (.func 18) #[.pointer (some ⟨w.heap.size + 1, 0, none⟩)] #[], .func (.func 19) #[.pointer (some ⟨w.heap.size + 1, 0, none⟩)] #[], .func (.func 20) #[.pointer (some ⟨w.heap.size + 1, 0, none⟩)] #[]] 46)) := b1.trans ((b2.trans (b3.mono b2.size)).mono b1.size)
  have FC := firstOf_calls (A := w.heap.size + 1) (S := w.heap.size + 1 + 1) (ver := ver) (rc := rc) (pc := pc) (W := (W1.alloc (.cells (ansC ver ra rs.length rc pa ps.length pc ba l.length bc d ⟨#[]⟩ ⟨#[]⟩ ⟨#[]⟩ ⟨#[]⟩ none 0 0 0 0 ⟨#[]⟩ ⟨#[]⟩) 60)).alloc (.cells #[.func (.func 18) #[.pointer (some ⟨w.heap.size + 1, 0, none⟩)] #[], .func (.func 19) #[.pointer (some ⟨w.heap.size + 1, 0, none⟩)] #[], .func (.func 20) #[.pointer (some ⟨w.heap.size + 1, 0, none⟩)] #[]] 46)) (SvAt.mk (by omega) B3 rts pos rl pl ht hd hb hc hz hL) (later_block b3 y2) (by omega) y3
  have y1' := later_block b3 (later_block b2 y1)
  have rowP := later_block B3 row
  have S3 : w.heap.size + 1 < ((W1.alloc (.cells (ansC ver ra rs.length rc pa ps.length pc ba l.length bc d ⟨#[]⟩ ⟨#[]⟩ ⟨#[]⟩ ⟨#[]⟩ none 0 0 0 0 ⟨#[]⟩ ⟨#[]⟩) 60)).alloc (.cells #[.func (.func 18) #[.pointer (some ⟨w.heap.size + 1, 0, none⟩)] #[], .func (.func 19) #[.pointer (some ⟨w.heap.size + 1, 0, none⟩)] #[], .func (.func 20) #[.pointer (some ⟨w.heap.size + 1, 0, none⟩)] #[]] 46)).heap.size := by have := b3.size; omega
  have hPs : P < ((W1.alloc (.cells (ansC ver ra rs.length rc pa ps.length pc ba l.length bc d ⟨#[]⟩ ⟨#[]⟩ ⟨#[]⟩ ⟨#[]⟩ none 0 0 0 0 ⟨#[]⟩ ⟨#[]⟩) 60)).alloc (.cells #[.func (.func 18) #[.pointer (some ⟨w.heap.size + 1, 0, none⟩)] #[], .func (.func 19) #[.pointer (some ⟨w.heap.size + 1, 0, none⟩)] #[], .func (.func 20) #[.pointer (some ⟨w.heap.size + 1, 0, none⟩)] #[]] 46)).heap.size := by omega
  unfold FoEnd at FC
  generalize serveL l rs ps d = sv at *
  obtain ⟨st, pool, addr⟩ := sv
  have FC := hide FC
  have BB := hide B3
  have Y1 := hide y1'
  have RP := hide rowP
  unfold ansC at FC BB Y1 RP S3 hPs
  clear y1 y2 y3 b2 b3 B3 y1' rowP rts pos row row1 hb hL ht s2 b1 rl2 pl2
  dsimp only at *
  go_enter Tryz.func10, Tryz.ntmps10
  go_wp2_with fail
  go_at_call 17
  refine (unhide FC).mono ?_
  rintro e V ⟨rfl, m, p, q, x, fa, fn, fc, R⟩
  have R := hide R
  have VR := (((unhide R).gr.block w.heap.size (by omega) (fun e => by have := Option.some.inj e; omega)).trans (unhide Y1))
  have VP := (((unhide R).gr.block P hPs (fun e => by have := Option.some.inj e; omega)).trans (unhide RP))
  have v0 := box_cell VP 0 _ rfl
  have a10 := (unhide R).cell 10 (.int .i64 0) rfl
  have a11 := (unhide R).cell 11 (.int .i64 0) rfl
  have f10 := (unhide R).froz 10
  have f11 := (unhide R).froz 11
  have a12 := (unhide R).cell 12 (.string pool) rfl
  have a13 := (unhide R).cell 13 (.string addr) rfl
  have z0 := box_cell VR 0 _ rfl
  have z1 := box_cell VR 1 _ rfl
  have z2 := box_cell VR 2 _ rfl
  have z3 := box_cell VR 3 _ rfl
  have g0 := froz_of VR 0
  have g1 := froz_of VR 1
  have g2 := froz_of VR 2
  have g3 := froz_of VR 3
  have hne : w.heap.size ≠ w.heap.size + 1 := by omega
  have hne' : w.heap.size + 1 ≠ w.heap.size := by omega
  clear VP
  have VR := hide VR
  go_wp2_with fail
  clear z0 z1 z2 z3 g0 g1 g2 g3 a10 a11 a12 a13 f10 f11 v0
  have VB := (((((((unhide BB).grown (unhide R).gr (unhide BB).size (fun k e => by have := Option.some.inj e; omega)).setCell (p := ⟨w.heap.size + 1, 10, none⟩) (by simp) (.int .i64 st)).setCell (p := ⟨w.heap.size + 1, 11, none⟩) (by simp) (.int .i64 ver)).setCell (p := ⟨w.heap.size, 0, none⟩) (by simp) (.int .i64 st)).setCell (p := ⟨w.heap.size, 1, none⟩) (by simp) (.int .i64 ver)).setCell (p := ⟨w.heap.size, 2, none⟩) (by simp) (.string pool)).setCell (p := ⟨w.heap.size, 3, none⟩) (by simp) (.string addr)
  have VR2 := (heap_setCell_other (V.setCell ⟨w.heap.size + 1, 10, none⟩ (.int .i64 st)) ⟨w.heap.size + 1, 11, none⟩ w.heap.size (.int .i64 ver) hne).trans ((heap_setCell_other V ⟨w.heap.size + 1, 10, none⟩ w.heap.size (.int .i64 st) hne).trans (unhide VR))
  have Z := heap_setCell_same _ w.heap.size 3 _ _ (.string addr) (heap_setCell_same _ w.heap.size 2 _ _ (.string pool) (heap_setCell_same _ w.heap.size 1 _ _ (.int .i64 ver) (heap_setCell_same _ w.heap.size 0 _ _ (.int .i64 st) VR2)))
  have k0 := box_cell Z 0 (.int .i64 st) rfl
  have k1 := box_cell Z 1 (.int .i64 ver) rfl
  have k2 := box_cell Z 2 (.string pool) rfl
  have k3 := box_cell Z 3 (.string addr) rfl
  clear Z VR2 VR R
  generalize hVV : ((((((V.setCell ⟨w.heap.size + 1, 10, none⟩ (.int .i64 st)).setCell ⟨w.heap.size + 1, 11, none⟩ (.int .i64 ver)).setCell ⟨w.heap.size, 0, none⟩ (.int .i64 st)).setCell ⟨w.heap.size, 1, none⟩ (.int .i64 ver)).setCell ⟨w.heap.size, 2, none⟩ (.string pool)).setCell ⟨w.heap.size, 3, none⟩ (.string addr)) = VV at *
  refine bodyPost_ret (v := .agg #[.int .i64 st, .int .i64 ver, .string pool, .string addr]) (by simp [results, Tryz.results10, go_sem, k0, k1, k2, k3]) rfl ⟨rfl, VB⟩
end Go.Proofs.YtcmiappiocfbiaaGreatDoor
end
/- Plane: clone. -/
section
namespace Go.Proofs.YtcmiappiocfbiaaGreatDoor
open Go.ChangeShapes Go.WideShapes Go.ChangeAt Go.RowKit
set_option linter.unusedVariables false

theorem OwnT.keep {base : Nat} {w w' : World} {sp : Option Addr} {c : Nat} {l : List Tg} (h : OwnT base w sp c l) (hb : ∀ g, sp.map (·.block) = some g → base ≤ g → g < w.heap.size → w'.heap[g]? = w.heap[g]?) : OwnT base w' sp c l := by
  refine ⟨h.1, ?_⟩
  rcases h.2 with hv | ⟨g', cap, cur, hv, hbg, hg, r⟩
  · exact .inl hv
  · have hv' := hv
    simp only [Value.slice.injEq] at hv'
    obtain ⟨rfl, _⟩ := hv'
    exact .inr ⟨g', cap, cur, hv, hbg, (hb g' rfl hbg (Array.getElem?_eq_some_iff.1 hg).1).trans hg, r⟩
theorem OwnT.lt {base : Nat} {w : World} {sp : Option Addr} {c : Nat} {l : List Tg} (h : OwnT base w sp c l) (g : Nat) (hg : sp.map (·.block) = some g) : base ≤ g ∧ g < w.heap.size := by
  rcases h.2 with ⟨hv, _⟩ | ⟨g', cap, cur, hv, hbg, hg', r⟩
  · simp only [Value.slice.injEq] at hv
    obtain ⟨rfl, _⟩ := hv
    cases hg
  · simp only [Value.slice.injEq] at hv
    obtain ⟨rfl, _⟩ := hv
    cases hg
    exact ⟨hbg, (Array.getElem?_eq_some_iff.1 hg').1⟩
theorem OwnT.cap {base : Nat} {w : World} {sp : Option Addr} {c : Nat} {l : List Tg} (h : OwnT base w sp c l) : l.length ≤ c ∧ (sp = none → c = 0) := by
  rcases h.2 with ⟨hv, h0⟩ | ⟨g', cap, cur, hv, hbg, hg', hle, r⟩
  · simp only [Value.slice.injEq] at hv
    exact ⟨by omega, fun _ => hv.2.2⟩
  · simp only [Value.slice.injEq] at hv
    obtain ⟨rfl, _, rfl⟩ := hv
    exact ⟨hle, fun e => by cases e⟩
/-- The pools' row while the targets of its first j pools are made one's own. -/
def PoolRow (base G : Nat) (w wr : World) (ps : List Po) (j : Nat) : Prop :=
  base ≤ G ∧ ∃ cur, wr.heap[G]? = some (.cells cur 39 (0, 0)) ∧ ∀ q (hq : q < ps.length), cur[q * 2]? = some (.string ps[q].nm) ∧ ∃ ta tc, cur[q * 2 + 1]? = some (.slice ta ps[q].ts.length tc) ∧ (q < j → OwnT base wr ta tc ps[q].ts ∧ ta.map (·.block) ≠ some G) ∧ (j ≤ q → TgsAt w ta ps[q].ts ∧ (ta = none → tc = 0))
theorem PoolRow.later {base G : Nat} {w wr wr' : World} {ps : List Po} {j : Nat} (h : PoolRow base G w wr ps j) (hb : ∀ g, base ≤ g → g < wr.heap.size → wr'.heap[g]? = wr.heap[g]?) : PoolRow base G w wr' ps j := by
  obtain ⟨hG, cur, h1, h2⟩ := h
  refine ⟨hG, cur, (hb G hG (Array.getElem?_eq_some_iff.1 h1).1).trans h1, fun q hq => ?_⟩
  obtain ⟨n1, ta, tc, n2, n3, n4⟩ := h2 q hq
  exact ⟨n1, ta, tc, n2, fun hj => ⟨(n3 hj).1.keep (fun g _ g1 g2 => hb g g1 g2), (n3 hj).2⟩, n4⟩
theorem PoolRow.step {base G : Nat} {w wr : World} {ps : List Po} {j : Nat} (h : PoolRow base G w wr ps j) (hj : j < ps.length) (ta' : Option Addr) (tc' : Nat) (ho : OwnT base wr ta' tc' ps[j].ts) (hne : ta'.map (·.block) ≠ some G) : PoolRow base G w (wr.setCell ⟨G, j * 2 + 1, none⟩ (.slice ta' ps[j].ts.length tc')) ps (j + 1) := by
  obtain ⟨hG, cur, h1, h2⟩ := h
  have oth : ∀ g, some g ≠ some G → (wr.setCell ⟨G, j * 2 + 1, none⟩ (.slice ta' ps[j].ts.length tc')).heap[g]? = wr.heap[g]? := fun g hg => heap_setCell_other wr ⟨G, j * 2 + 1, none⟩ g _ (fun e => hg (by rw [e]))
  refine ⟨hG, _, heap_setCell_same wr G (j * 2 + 1) cur _ _ h1, fun q hq => ?_⟩
  obtain ⟨n1, ta, tc, n2, n3, n4⟩ := h2 q hq
  by_cases e : q = j
  · subst e
    have hlt : q * 2 + 1 < cur.size := (Array.getElem?_eq_some_iff.1 n2).1
    refine ⟨by rw [Array.getElem?_setIfInBounds_ne (by omega)]; exact n1, ta', tc', by rw [Array.getElem?_setIfInBounds_self_of_lt hlt], fun _ => ⟨ho.keep (fun g g0 _ _ => oth g (fun e => hne (by rw [g0, e]))), hne⟩, fun h => by omega⟩
  · refine ⟨by rw [Array.getElem?_setIfInBounds_ne (by omega)]; exact n1, ta, tc, by rw [Array.getElem?_setIfInBounds_ne (by omega)]; exact n2, fun hq' => ⟨(n3 (by omega)).1.keep (fun g g0 _ _ => oth g (fun e => (n3 (by omega)).2 (by rw [g0, e]))), (n3 (by omega)).2⟩, fun hq' => n4 (by omega)⟩
/-- A configuration that lies wholly in blocks of one's own. -/
def Stay (base : Nat) (w : World) (e : Cf) (h : CfH) : Prop := ∀ w', (∀ g, base ≤ g → g < w.heap.size → w'.heap[g]? = w.heap[g]?) → CfAt w' e h
theorem Stay.now {base : Nat} {w : World} {e : Cf} {h : CfH} (s : Stay base w e h) : CfAt w e h := s w (fun _ _ _ => rfl)
theorem Stay.later {base : Nat} {w w' : World} {e : Cf} {h : CfH} (s : Stay base w e h) (hb : ∀ g, base ≤ g → g < w.heap.size → w'.heap[g]? = w.heap[g]?) (hs : w.heap.size ≤ w'.heap.size) : Stay base w' e h :=
  fun v hv => s v (fun g h1 h2 => (hv g h1 (Nat.lt_of_lt_of_le h2 hs)).trans (hb g h1 h2))
theorem PoolRow.pos {base G : Nat} {w wr : World} {ps : List Po} (h : PoolRow base G w wr ps ps.length) (hl : ∀ y ∈ ps, (∀ t ∈ y.ts, t.2 < 18446744073709551616) ∧ y.ts.length ≤ maxLen) : PosAt wr (some ⟨G, 0, none⟩) ps := by
  obtain ⟨hG, cur, h1, h2⟩ := h
  refine ⟨fun i hi => ?_⟩
  obtain ⟨n1, ta, tc, n2, n3, _⟩ := h2 i hi
  obtain ⟨m1, m2⟩ := hl _ (List.getElem_mem hi)
  have o := (n3 hi).1
  exact ⟨G, 0, ta, tc, rfl, by rw [Nat.zero_add]; exact box_cell h1 _ _ n1, by rw [Nat.zero_add]; exact box_cell h1 _ _ n2, o.at_ m1, ⟨m2, o.cap.1⟩, o.cap.2⟩
end Go.Proofs.YtcmiappiocfbiaaGreatDoor
end
