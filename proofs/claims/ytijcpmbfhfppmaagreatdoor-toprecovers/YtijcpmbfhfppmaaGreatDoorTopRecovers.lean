/- Proved: through any number of crashes what was synced is there, of each life the entries up to the last Sync and the first ones of those behind it, for every lives and what crashes keep; no condition beyond the tables that the row lists (tz_of). -/
import Derived.Test.YtijcpmbfhfppmaaGreatDoorB26
import Derived.Test.YtijcpmbfhfppmaaGreatDoorB31
import Derived.Test.YtijcpmbfhfppmaaGreatDoorB29
import Derived.Deep.CutBlock
import Derived.Deep.CutRange
import Derived.Deep.DeepCutAuto
import Derived.BigQuiet
import Derived.Test.YtijcpmbfhfppmaaGreatDoorTie
import Derived.Test.YtijcpmbfhfppmaaGreatDoorCards
import Derived.Lay
import Derived.MakeChecks
import Derived.SevenTiedAt
import Derived.Stop.Joined
namespace Go.Proofs.YtijcpmbfhfppmaaGreatDoor.topRecovers
open Go.ChangeShapes Go.WideShapes Go.ChangeAt Go.RowKit
set_option linter.unusedVariables false

theorem own : ownKnob Tryz.prog.godebug = none := by kernel_rfl
theorem laidOut : laidOutB Tryz.prog = true := by kernel_rfl

/-- Lives that came in: how many entries each adds. -/
structure LivesAt (w : World) (a : Option Addr) (ls : List (Nat × Nat)) : Prop where
  cell : ∀ i (hi : i < ls.length), ∃ b off, a = some ⟨b, off, none⟩ ∧ w.cell? ⟨b, off + i * 2, none⟩ = some (.int .u8 (ls[i].1 : Int)) ∧ w.cell? ⟨b, off + i * 2 + 1, none⟩ = some (.int .u8 (ls[i].2 : Int)) ∧ ls[i].1 < 256 ∧ ls[i].2 < 256
theorem LivesAt.later {w w' : World} {a : Option Addr} {ls : List (Nat × Nat)} (h : LivesAt w a ls) (hb : Below w.heap.size w w') : LivesAt w' a ls :=
  ⟨fun i hi => by
    obtain ⟨b, off, h0, h1, h2, h3⟩ := h.cell i hi
    exact ⟨b, off, h0, cell_later hb h1, cell_later hb h2, h3⟩⟩
theorem cells2 {w : World} {a : Addr} {cs : List Value} (h : w.cells? 0 a 2 = some cs) : ∃ v0 v1, cs = [v0, v1] ∧ w.cell? (a.add 0) = some v0 ∧ w.cell? (a.add 1) = some v1 := by
  unfold World.cells? at h
  rw [if_pos (Nat.zero_le _)] at h
  simp only [show List.range 2 = [0, 1] from rfl, List.mapM_cons, List.mapM_nil, Option.bind_eq_bind, Option.bind_eq_some_iff, Option.pure_def, Option.some.injEq] at h
  obtain ⟨v0, h0, r, ⟨v1, h1, r1, rfl, rfl⟩, rfl⟩ := h
  exact ⟨v0, v1, rfl, h0, h1⟩
set_option maxRecDepth 20000 in
theorem two_open {H : Type} {enc : TypeId × Value → H} {W : World} {n : Nat} {v0 v1 : Value} {y : DataW H × List MemPlace}
    (h2 : DataW.trod enc Tryz.prog W 0 (fun _ => true) true n 85 [v0, v1] = some y) : ∃ x : Nat × Nat, v0 = .int .u8 (x.1 : Int) ∧ v1 = .int .u8 (x.2 : Int) ∧ x.1 < 256 ∧ x.2 < 256 := by
  obtain ⟨xs, m, _, _, _, hl, hx⟩ := DataW.trod_array Tryz.underlying85 h2
  have hc : Tryz.prog.cellsOf 5 = 1 := by kernel_rfl
  have h0 := hx 0 (by omega)
  have h1 := hx 1 (by omega)
  rw [hc, List.getElem?_eq_getElem (by omega)] at h0 h1
  obtain ⟨t, e0, _, w0⟩ := DataW.trod_int Tryz.underlying5 h0
  obtain ⟨u, e1, _, w1⟩ := DataW.trod_int Tryz.underlying5 h1
  simp at e0 e1
  subst e0 e1
  obtain ⟨t', rfl, ht⟩ := u8_nat w0
  obtain ⟨u', rfl, hu⟩ := u8_nat w1
  exact ⟨(t', u'), rfl, rfl, ht, hu⟩
set_option maxRecDepth 20000 in
theorem ddeeds_arg {H : Type} {enc : TypeId × Value → H} {W : World} {a : Option Addr} {len cap : Nat} {d : DataW H} {p : List MemPlace}
    (h : DataW.Trod enc Tryz.prog W 0 (fun _ => true) true 84 (.slice a len cap) d p) : ∃ es : List (Nat × Nat), es.length = len ∧ len ≤ maxLen ∧ LivesAt W a es := by
  obtain ⟨fuel, hf⟩ := h
  have c2 : Tryz.prog.cellsOf 85 = 2 := by kernel_rfl
  rcases Deep.open_slice Tryz.underlying84 hf with ⟨hcs, _⟩ | ⟨x, l, c, m, n, D, Pl, hcs, _, hl, hm, hm', _, hel⟩
  · simp [Value.cells] at hcs
    obtain ⟨rfl, rfl, rfl⟩ := hcs
    exact ⟨[], rfl, by simp [maxLen], ⟨by simp⟩⟩
  · simp [Value.cells] at hcs
    obtain ⟨rfl, rfl, rfl⟩ := hcs
    have hmm : m = cap := by simpa using hm'
    rw [c2] at hel
    have hone : ∀ i, i < len → ∃ (e : Nat × Nat), W.cell? ((x.add (i * 2)).add 0) = some (.int .u8 (e.1 : Int)) ∧ W.cell? ((x.add (i * 2)).add 1) = some (.int .u8 (e.2 : Int)) ∧ e.1 < 256 ∧ e.2 < 256 := by
      intro i hi
      obtain ⟨cs', h1, h2⟩ := hel i (by omega)
      obtain ⟨v0, v1, rfl, g0, g1⟩ := cells2 h1
      obtain ⟨e, rfl, rfl, hd⟩ := two_open h2
      exact ⟨e, g0, g1, hd⟩
    obtain ⟨f, hfp⟩ := Deep.choose_lt (n := len) (p := fun i (e : Nat × Nat) => W.cell? ((x.add (i * 2)).add 0) = some (.int .u8 (e.1 : Int)) ∧ W.cell? ((x.add (i * 2)).add 1) = some (.int .u8 (e.2 : Int)) ∧ e.1 < 256 ∧ e.2 < 256) (fun i hi => hone i hi)
    refine ⟨(List.range len).map f, by simp, by omega, ⟨fun i hi => ?_⟩⟩
    simp only [List.length_map, List.length_range] at hi
    obtain ⟨h0, h1, h2⟩ := hfp i hi
    have e : ((List.range len).map f)[i]'(by simpa using hi) = f i := by simp
    rw [e]
    obtain ⟨b, off, spot⟩ := x
    obtain ⟨h00, _⟩ := hfp 0 (by omega)
    have hspot : spot = none := by simpa [Addr.add] using World.cell?_spot h00
    subst hspot
    simp only [Addr.add_lit] at h0 h1
    exact ⟨b, off, rfl, h0, h1, h2⟩
/-- A log in its life: what is synced, the entries behind it. -/
def Tv (base : Nat) (w0 wr : World) (L d M : Nat) (c c1 : Wc) (es : List EntN) (i x : Nat) : Prop :=
  ∃ N ss r1 ep ec hs, WAt (fun _ => False) base wr L d M 131072 N ss c 1 ep ec hs ∧ Lv 131072 ss c c1 es r1 i ∧ N ≤ x ∧ Below base w0 wr
theorem Tv.bel {base : Nat} {w0 wr : World} {L d M : Nat} {c c1 : Wc} {es : List EntN} {i x : Nat} (h : Tv base w0 wr L d M c c1 es i x) : Below base w0 wr := by
  obtain ⟨_, _, _, _, _, _, _, _, _, h⟩ := h
  exact h
theorem Tv.mono {base : Nat} {w0 wr : World} {L d M : Nat} {c c1 : Wc} {es : List EntN} {i x i' x' : Nat} (h : Tv base w0 wr L d M c c1 es i x) (hi : i ≤ i') (hx : x ≤ x') : Tv base w0 wr L d M c c1 es i' x' := by
  obtain ⟨N, ss, r1, ep, ec, hs, z, lv, hN, hb⟩ := h
  exact ⟨N, ss, r1, ep, ec, hs, z, lv.mono hi, by omega, hb⟩
/-- One entry with one byte in blocks of one's own. -/
theorem one_inB {P : Nat → Prop} {W : World} {B E b : Nat} {t i : Int} (h : W.heap[E]? = some (.cells #[.int .i64 2, .int .i64 t, .int .i64 i, .slice (some ⟨B, 0, none⟩) 1 1] 60 (0, 0))) (hB : W.heap[B]? = some (.cells #[.int .u8 (b : Int)] 5 (0, 0))) (hb : b < 256) (hP : P E) (hQ : P B) : EntsIn P W (some ⟨E, 0, none⟩) [(2, t, i, [b])] := by
  refine ⟨⟨fun j hj => ?_⟩, fun b off e h0 => ?_, fun j hj b off dp dc n e hc g o e1 h0 => ?_⟩
  · obtain rfl : j = 0 := by simp at hj; omega
    refine ⟨E, 0, some ⟨B, 0, none⟩, 1, rfl, box_cell h 0 _ rfl, box_cell h 1 _ rfl, box_cell h 2 _ rfl, box_cell h 3 _ rfl, ⟨by simpa using hb, fun j hj => ?_⟩, fun h => by cases h⟩
    obtain rfl : j = 0 := by simp at hj; omega
    exact ⟨B, 0, rfl, box_cell hB 0 _ rfl⟩
  · cases e
    exact hP
  · obtain rfl : j = 0 := by simp at hj; omega
    cases e
    have h3 : W.cell? ⟨E, 3, none⟩ = some (.slice (some ⟨B, 0, none⟩) 1 1) := box_cell h 3 _ rfl
    rw [show (0 + 0 * 4 + 3 : Nat) = 3 from rfl, h3] at hc
    simp only [Option.some.injEq, Value.slice.injEq] at hc
    rw [← hc.1] at e1
    cases e1
    exact hQ
set_option maxRecDepth 20000 in
set_option maxHeartbeats 16000000 in
theorem walk (a0 : Option Addr) (c0 : Nat) (l0 : List (Nat × Nat)) (a1 : Option Addr) (c1 : Nat) (l1 : List Int) (w : World) (hx0 : l0.length ≤ maxLen) (hb0 : LivesAt w a0 l0) (hx1 : l1.length ≤ maxLen) (hb1 : IntsAt w a1 l1) (hTz : Tz w) :
    Calls Tryz.prog 13 #[.slice a0 l0.length c0, .slice a1 l1.length c1] w fun e w' => e = .returned (.bool true) ∧ Below w.heap.size w w' := by
  have TZ := hide hTz
  have HB0 := hide hb0
  have HB1 := hide hb1
  simp only [maxLen] at hx0 hx1
  have NC := hide (anew_calls w 131072)
  rw [show ((131072 : Int).toNat) = 131072 from rfl] at NC
  generalize hq0 : l0.length = m0 at *
  generalize hq1 : l1.length = m1 at *
  have Q0 := hide hq0
  have Q1 := hide hq1
  clear hTz hb0 hb1 hq0 hq1
  go_enter Tryz.func13, Tryz.ntmps13
  go_wp2_with fail
  go_at_call 24
  refine (unhide NC).mono ?_
  rintro e V1 ⟨d, M, rfl, h1, v1⟩
  have TT := hide (show ∃ w0 : World, w0.heap.size = w.heap.size ∧ Tz w0 ∧ Below w.heap.size w0 V1 from ⟨w, rfl, unhide TZ, v1⟩)
  have OC := hide (open_calls h1 (unhide TT) (by omega))
  rw [(LS.begin (show 22 ≤ 131072 by omega)).1] at OC
  have A1 := hide v1
  clear h1 v1 NC
  go_wp2_with fail
  go_at_call 25
  refine (unhide OC).mono ?_
  rintro e V2 ⟨a2, L, ep, ec, hs, rfl, z2, _⟩
  have I2 := hide (show Tv w.heap.size w V2 L d M wc0 wc0 [] 0 2 from ⟨_, _, _, _, _, _, z2, Lv.begin (by omega), by omega, (unhide A1).trans a2.bel⟩)
  clear a2 z2 OC TT A1
  go_wp2_with fail
  go_loopw [6, 7, 8, 9, 10, 11, 12, 13, 14, 15] (fun v6 v7 v8 v9 _ _ _ _ _ _ wr => ∃ (i : Nat) (L : Nat) (c : Wc), i ≤ m0 ∧ i ≤ 30 ∧ v9 = .int .i64 (i : Int) ∧ v6 = .pointer (some ⟨L, 0, none⟩) ∧ v7 = .int .i64 0 ∧ v8 = .int .i64 ((c.es.length : Nat) : Int) ∧ Hid (c.es.length ≤ 22 * i) ∧ Hid (Tv w.heap.size w wr L d M c c [] i (2 + 60 * i))) (fun _ _ _ v9 _ _ _ _ _ _ _ => 30 - (intOf v9).toNat)
  case atStart => exact ⟨0, L, wc0, by omega, by omega, rfl, rfl, rfl, rfl, hide (by simp [wc0]), I2⟩
  case round =>
    obtain ⟨i, L, c, hi, hi3, rfl, rfl, rfl, rfl, HC, I3⟩ := hrel
    by_cases hi1 : i < m0
    · have y1 : (i : Int) < (m0 : Int) := by omega
      by_cases hi2 : i < 30
      · have y0 : (0 : Int) ≤ (i : Int) := by omega
        have y2 : (i : Int) < 30 := by omega
        have I4 := hide ((unhide I3).mono (i' := i + 1) (x' := 2 + 60 * i) (by omega) (by omega))
        have hcl := unhide HC
        generalize hat : c.es.length = at0 at *
        have HAT := hide hat
        clear I2 I3 hat
        go_upto_block 2 with fail
        go_cut [8, 10, 11, 12] from 28 to 167 (fun v8 v10 _ _ wc => ∃ (c c1 : Wc) (es : List EntN) (al sl : Nat), v8 = .int .i64 (al : Int) ∧ v10 = .int .i64 (sl : Int) ∧ Hid (c.es.length = al) ∧ Hid (c1.es.length = sl) ∧ sl ≤ al ∧ al ≤ 22 * (i + 1) ∧ Hid (Tv w.heap.size w wc L d M c c1 es (i + 1) (2 + 60 * i + 46)))
        case first =>
          go_wp2_with fail
          go_loopw [8, 10, 11, 12] (fun v8 v10 v11 _ wr => ∃ (p : Nat) (c c1 : Wc) (es : List EntN) (al sl : Nat), p ≤ 2 ∧ v11 = .int .i64 (p : Int) ∧ v8 = .int .i64 (al : Int) ∧ v10 = .int .i64 (sl : Int) ∧ Hid (c.es.length = al) ∧ Hid (c1.es.length = sl) ∧ sl ≤ al ∧ al ≤ 22 * i + 11 * p ∧ Hid (Tv w.heap.size w wr L d M c c1 es (i + 1) (2 + 60 * i + 23 * p))) (fun _ _ v11 _ _ => 2 - (intOf v11).toNat)
          case atStart => exact ⟨0, c, c, [], at0, at0, by omega, rfl, rfl, rfl, HAT, HAT, by omega, by omega, I4⟩
          case round =>
            obtain ⟨p, c2, c3, es, al, sl, hp, rfl, rfl, rfl, HA, HS, hsl, hal, I5⟩ := hrel
            by_cases hp2 : p < 2
            · have z0 : (0 : Int) ≤ (p : Int) := by omega
              have z1 : (p : Int) < 2 := by omega
              have hil : i < l0.length := by rw [unhide Q0]; exact hi1
              obtain ⟨b, off, rfl, q0, q1, w0, w1⟩ := (unhide HB0).cell i hil
              obtain ⟨K0, hK0, hK1⟩ : ∃ K0 : Nat, w.cell? ⟨b, off + i * 2 + p, none⟩ = some (.int .u8 (K0 : Int)) ∧ K0 < 256 := by
                rcases (show p = 0 ∨ p = 1 by omega) with rfl | rfl
                · exact ⟨_, q0, w0⟩
                · exact ⟨_, q1, w1⟩
              have CK := hide hK0
              have hrem : (K0 : Int).tmod 12 = ((K0 % 12 : Nat) : Int) := by
                rw [Int.tmod_eq_emod_of_nonneg (by omega)]
                omega
              have hK : K0 % 12 ≤ 11 := by omega
              generalize K0 % 12 = K at *
              clear q0 q1 w0 w1 hK0
              go_wp2_with fail
              go_loopw [8, 12] (fun v8 v12 wr => ∃ (k : Nat) (c2 : Wc) (es : List EntN) (al : Nat), k ≤ K ∧ v12 = .int .i64 (k : Int) ∧ v8 = .int .i64 (al : Int) ∧ Hid (c2.es.length = al) ∧ sl ≤ al ∧ al ≤ 22 * i + 11 * p + k ∧ Hid (Tv w.heap.size w wr L d M c2 c3 es (i + 1) (2 + 60 * i + 23 * p + 2 * k))) (fun _ v12 _ => K - (intOf v12).toNat)
              case atStart => exact ⟨0, c2, es, al, by omega, rfl, rfl, HA, hsl, by omega, I5⟩
              case round =>
                clear I5 HA hsl hal
                obtain ⟨k, c2, es, al, hk, rfl, rfl, HA, hsl, hal, I5⟩ := hrel
                have ck := cell_later (unhide I5).bel (unhide CK)
                by_cases hkK : k < K
                · have z2 : (k : Int) < (K : Int) := by omega
                  obtain ⟨N, ss, r1, ep5, ec5, hs5, z5, lv5, N5, bb5⟩ := unhide I5
                  have hlen := unhide HA
                  have hw8 : IntKind.u8.wrap ((al : Int) + 1) = (((al + 1) % 256 : Nat) : Int) := by
                    rw [IntKind.wrap_u8]
                    omega
                  have hb8 : (al + 1) % 256 < 256 := Nat.mod_lt _ (by omega)
                  obtain ⟨ss6, e6, lv6⟩ := lv5.put (by omega) (by omega) (by omega) (by omega)
                  rw [hlen, show ((i + 1 : Nat) : Int) = (i : Int) + 1 by omega, show ((al + 1 : Nat) : Int) = (al : Int) + 1 by omega] at e6
                  rw [hlen] at lv6
                  generalize (al + 1) % 256 = b8 at *
                  have U1 := (Below.refl wr.heap.size wr).alloc (Nat.le_refl _) (.cells #[.int .u8 (b8 : Int)] 5)
                  have S1 : (wr.alloc (.cells #[.int .u8 (b8 : Int)] 5)).heap.size = wr.heap.size + 1 := by simp
                  have X1 := heap_new wr (.cells #[.int .u8 (b8 : Int)] 5)
                  have U2 := (Below.refl (wr.alloc (.cells #[.int .u8 (b8 : Int)] 5)).heap.size (wr.alloc (.cells #[.int .u8 (b8 : Int)] 5))).alloc (Nat.le_refl _) (.cells #[.int .i64 2, .int .i64 ((i : Int) + 1), .int .i64 ((al : Int) + 1), .slice (some ⟨wr.heap.size, 0, none⟩) 1 1] 60)
                  have X2 := heap_new (wr.alloc (.cells #[.int .u8 (b8 : Int)] 5)) (.cells #[.int .i64 2, .int .i64 ((i : Int) + 1), .int .i64 ((al : Int) + 1), .slice (some ⟨wr.heap.size, 0, none⟩) 1 1] 60)
                  have X1 := later_block U2 X1
                  rw [S1] at X2
                  have U3 := U1.trans (U2.mono U1.size)
                  have L1 := (Array.getElem?_eq_some_iff.1 X1).1
                  have L2 := (Array.getElem?_eq_some_iff.1 X2).1
                  have AC := hide (append_calls (z5.more U3) (by omega) (some ⟨wr.heap.size + 1, 0, none⟩) 1 1 [(2, (i : Int) + 1, (al : Int) + 1, [b8])] rfl (one_inB X2 X1 hb8 (.inr (.inr ⟨by omega, L2⟩)) (.inr (.inr ⟨by omega, L1⟩))) (by rw [hlen]; omega))
                  rw [e6] at AC
                  have I6 := hide (show ∀ V, (∃ ep ec hs, WAt (fun g => False ∨ (wr.heap.size ≤ g ∧ g < ((wr.alloc (.cells #[.int .u8 (b8 : Int)] 5)).alloc (.cells #[.int .i64 2, .int .i64 ((i : Int) + 1), .int .i64 ((al : Int) + 1), .slice (some ⟨wr.heap.size, 0, none⟩) 1 1] 60)).heap.size)) w.heap.size V L d M 131072 (N + 2) ss6 { c2 with es := c2.es ++ [(2, i + 1, al + 1, [b8])] } 1 ep ec hs) → Asd (fun g => False ∨ (wr.heap.size ≤ g ∧ g < ((wr.alloc (.cells #[.int .u8 (b8 : Int)] 5)).alloc (.cells #[.int .i64 2, .int .i64 ((i : Int) + 1), .int .i64 ((al : Int) + 1), .slice (some ⟨wr.heap.size, 0, none⟩) 1 1] 60)).heap.size)) w.heap.size ((wr.alloc (.cells #[.int .u8 (b8 : Int)] 5)).alloc (.cells #[.int .i64 2, .int .i64 ((i : Int) + 1), .int .i64 ((al : Int) + 1), .slice (some ⟨wr.heap.size, 0, none⟩) 1 1] 60)) V → Tv w.heap.size w V L d M { c2 with es := c2.es ++ [(2, i + 1, al + 1, [b8])] } c3 (es ++ [(2, i + 1, al + 1, [b8])]) (i + 1) (2 + 60 * i + 23 * p + 2 * (k + 1)) from fun V hz ha => by
                    obtain ⟨ep7, ec7, hs7, z7⟩ := hz
                    exact ⟨_, _, _, _, _, _, z7.sub (fun g hg => hg.elim), lv6, by omega, (bb5.trans (U3.mono bb5.size)).trans ha.bel⟩)
                  have HL := hide (show ({ c2 with es := c2.es ++ [(2, i + 1, al + 1, [b8])] } : Wc).es.length = al + 1 by simp only [List.length_append, List.length_singleton]; omega)
                  generalize ({ c2 with es := c2.es ++ [(2, i + 1, al + 1, [b8])] } : Wc) = c4 at *
                  clear U1 U2 U3 X1 X2 S1 L1 L2 z5 lv5 lv6 e6 hlen bb5 I5
                  go_wp2_with fail
                  generalize (wr.alloc _).alloc _ = W2 at *
                  go_at_call 27
                  refine (unhide AC).mono ?_
                  rintro e V4 ⟨rfl, z7, a7⟩
                  have I7 := hide (unhide I6 V4 z7 a7)
                  clear z7 a7 AC I6
                  rw [show ((0 : Nat) : Int) = 0 from rfl]
                  go_wp2
                  exact ⟨⟨k + 1, c4, _, al + 1, by omega, by go_num, by go_num, HL, by omega, by omega, I7⟩, by simp [intOf]; omega⟩
                · have z2 : ¬ (k : Int) < (K : Int) := by omega
                  by_cases hp0 : p = 0
                  · subst hp0
                    obtain ⟨N, ss, r1, ep5, ec5, hs5, z5, lv5, N5, bb5⟩ := unhide I5
                    obtain ⟨ss6, r6, e6, lv6⟩ := lv5.sync
                    have SC := hide (wsync_calls z5)
                    rw [e6] at SC
                    have I6 := hide (show ∀ V, WAt (fun _ => False) w.heap.size V L d M 131072 N ss6 c2 1 ep5 ec5 hs5 → Below w.heap.size wr V → Tv w.heap.size w V L d M c2 c2 [] (i + 1) (2 + 60 * i + 23 * 1) from fun V z7 u => ⟨_, _, _, _, _, _, z7, lv6, by omega, bb5.trans u⟩)
                    clear z5 lv5 lv6 e6 bb5 I5
                    rw [Nat.add_zero] at ck
                    go_wp2_with fail
                    go_at_call 29
                    refine (unhide SC).mono ?_
                    rintro e V4 ⟨rfl, z7, a7⟩
                    have I7 := hide (unhide I6 V4 z7 a7.bel)
                    clear z7 a7 SC I6
                    rw [show ((0 : Nat) : Int) = 0 from rfl]
                    go_wp2
                    exact ⟨⟨1, c2, c2, [], al, al, by omega, by go_num, rfl, rfl, HA, HA, by omega, by omega, I7⟩, by simp [intOf]⟩
                  · obtain rfl : p = 1 := by omega
                    have I6 := hide ((unhide I5).mono (i' := i + 1) (x' := 2 + 60 * i + 23 * 2) (by omega) (by omega))
                    clear hp0
                    go_wp2
                    exact ⟨⟨2, c2, c3, es, al, sl, by omega, by go_num, rfl, rfl, HA, HS, by omega, by omega, I6⟩, by simp [intOf]⟩
            · have z1 : ¬ (p : Int) < 2 := by omega
              obtain rfl : p = 2 := by omega
              go_wp2_with fail
              go_meet
              case rel => exact ⟨c2, c3, es, al, sl, rfl, rfl, HA, HS, hsl, by omega, I5⟩
        case rest =>
          obtain ⟨c2, c3, es, al, sl, rfl, rfl, HA, HS, hsl, hal, I5⟩ := hcut
          clear I4 HAT HC hcl
          generalize wc = V5 at *
          go_upto_if 77 with fail
          go_cut [13] from 28 to 167 (fun v wx => V5 = wx ∧ ∃ kv : Int, v = .int .i64 kv ∧ -9223372036854775808 ≤ kv ∧ kv ≤ 9223372036854775807)
          case first =>
            by_cases him : i < m1
            · have z1 : (i : Int) < (m1 : Int) := by omega
              have hil : i < l1.length := by rw [unhide Q1]; exact him
              obtain ⟨b, off, rfl, p0⟩ := ((unhide HB1).later (unhide I5).bel).cell i hil
              have hbd := (unhide HB1).bd l1[i] (List.getElem_mem _)
              generalize l1[i] = kv at *
              go_wp2_with fail
              go_meet
              case rel => exact ⟨rfl, kv, rfl, hbd.1, hbd.2⟩
            · have z1 : ¬ (i : Int) < (m1 : Int) := by omega
              go_wp2_with fail
              go_meet
              case rel => exact ⟨rfl, 0, rfl, by omega, by omega⟩
          case rest =>
            obtain ⟨rfl, kv, rfl, hk1, hk2⟩ := hcut
            obtain ⟨N, ss, r1, ep5, ec5, hs5, z5, lv5, N5, bb5⟩ := unhide I5
            obtain ⟨ss8, c8, r8, e8, lv8, hlo, hhi⟩ := lv5.crash [kv]
            have U6 := (Below.refl V5.heap.size V5).alloc (Nat.le_refl _) (.cells #[.int .i64 kv] 3)
            have X6 := heap_new V5 (.cells #[.int .i64 kv] 3)
            have L6 := (Array.getElem?_eq_some_iff.1 X6).1
            have CC := hide (acrash_calls ((z5.more U6).dk.av (Bv := fun g => False ∨ (V5.heap.size ≤ g ∧ g < (V5.alloc (.cells #[.int .i64 kv] 3)).heap.size)) (fun g hg => .inl hg)) (some ⟨V5.heap.size, 0, none⟩) 1 1 [kv] rfl (ints_one X6 ⟨hk1, hk2⟩) (fun b off e _ => by cases e; exact .inr (.inr ⟨Nat.le_refl _, L6⟩)))
            have B6 := hide (bb5.trans (U6.mono bb5.size))
            have E8 := hide e8
            have LV8 := hide lv8
            have hbi := lv8.tr.b
            have HLO := hide (show sl ≤ c8.es.length by rw [← unhide HS]; exact hlo)
            have HHI := hide (show c8.es.length ≤ al by rw [← unhide HA]; exact hhi)
            clear e8 lv8 hlo hhi z5 lv5 bb5 U6 X6 L6 I5
            go_wp2_with fail
            generalize V5.alloc _ = W6 at *
            go_at_call 32
            refine (unhide CC).mono ?_
            rintro e V7 ⟨rfl, d7, a7⟩
            have B7 := hide ((unhide B6).trans a7.bel)
            have OC := hide (open_calls (d7.av (Bv := fun _ => False) (fun g hg => hg.elim)) (show ∃ w0 : World, w0.heap.size = w.heap.size ∧ Tz w0 ∧ Below w.heap.size w0 V7 from ⟨w, rfl, unhide TZ, unhide B7⟩) (by omega))
            rw [unhide E8] at OC
            clear d7 a7 CC
            go_wp2_with fail
            go_at_call 25
            refine (unhide OC).mono ?_
            rintro e V8 ⟨a8, L8, ep8, ec8, hs8, rfl, z8, _⟩
            have B8 := hide ((unhide B7).trans a8.bel)
            have LC := hide (fun W (u : Below V8.heap.size V8 W) => wlast_calls (z8.later u))
            have EC := hide (fun W (u : Below V8.heap.size V8 W) => entries_calls (z8.later u) 1 ((c8.es.length : Nat) : Int))
            rw [show (((c8.bi + c8.es.length : Nat)) : Int) = ((c8.es.length : Nat) : Int) by rw [hbi, Nat.zero_add]] at LC
            rw [fromTo_all (unhide LV8).ls.ix (by rw [hbi]; omega) (by rw [hbi]; omega)] at EC
            have I8 := hide (show ∀ W, Below V8.heap.size V8 W → Tv w.heap.size w W L8 d M c8 c8 [] (i + 1) (2 + 60 * (i + 1)) from fun W u => ⟨_, _, _, _, _, _, z8.later u, unhide LV8, by omega, (unhide B8).trans (u.mono z8.dk.le)⟩)
            have hlo := unhide HLO
            have hhi := unhide HHI
            clear a8 z8 OC hbi
            generalize hla : c8.es.length = la at *
            have HLA := hide hla
            have t1 : ¬ (la : Int) < (sl : Int) := by omega
            have t2 : ¬ (al : Int) < (la : Int) := by omega
            clear hla
            go_wp2_with fail
            go_at_call 39
            refine (unhide LC _ (Below.refl _ _)).mono ?_
            rintro e Va ⟨rfl, va⟩
            have Ba := hide va
            clear va
            go_wp2_with fail
            go_at_call 39
            refine (unhide LC _ (unhide Ba)).mono ?_
            rintro e Vb ⟨rfl, vb⟩
            have Bb := hide ((unhide Ba).trans (vb.mono (unhide Ba).size))
            clear vb
            go_wp2_with fail
            go_at_call 39
            refine (unhide LC _ (unhide Bb)).mono ?_
            rintro e Vc ⟨rfl, vc⟩
            have Bc := hide ((unhide Bb).trans (vc.mono (unhide Bb).size))
            clear vc
            go_wp2_with fail
            go_at_call 22
            refine (unhide EC _ (unhide Bc)).mono ?_
            rintro e Vd ⟨spd, md, kd, hsd, rfl, hmd, od, vd⟩
            have hme : md = la := by rw [← hmd]; exact unhide HLA
            subst hme
            have Bd := hide ((unhide Bc).trans (vd.mono (unhide Bc).size))
            have EA := hide od.ents
            clear vd od hmd LC EC
            go_wp2_with fail
            go_loopw [15] (fun q wr => ∃ y : Nat, y ≤ md ∧ q = .int .i64 (y : Int) ∧ Hid (Below Vd.heap.size Vd wr)) (fun q _ => md - (intOf q).toNat)
            case atStart => exact ⟨0, by omega, rfl, hide (Below.refl _ _)⟩
            case round =>
              obtain ⟨y, hy, rfl, F⟩ := hrel
              by_cases hym : y < md
              · have z0 : (0 : Int) ≤ (y : Int) := by omega
                have z1 : (y : Int) < (md : Int) := by omega
                have hyl : y < c8.es.length := by rw [unhide HLA]; exact hym
                have HYL := hide hyl
                obtain ⟨b, off, dp, dc, rfl, pk, p1, p2, p3, p4, _⟩ := ((unhide EA).later (unhide F)).cell y (by rw [List.length_map]; exact hyl)
                rw [List.getElem_map] at p1 p2 p3 p4
                obtain ⟨t, ht, _, _⟩ := (unhide LV8).tr.at_ y hyl
                have HT := hide ht
                rw [ht] at p1 p2 p3 p4
                simp only [toI, List.length_singleton] at p1 p2 p3 p4
                obtain ⟨b2, off2, rfl, r0⟩ := p4.cell 0 (by simp)
                simp only [List.getD_cons_zero, Nat.add_zero] at r0
                have hw8 : IntKind.u8.wrap ((y : Int) + 1) = (((y + 1) % 256 : Nat) : Int) := by
                  rw [IntKind.wrap_u8]
                  omega
                generalize (y + 1) % 256 = b8 at *
                rw [show (((y + 1 : Nat)) : Int) = (y : Int) + 1 by omega] at p2
                have hmd : md ≤ 1000 := by omega
                have hwy : IntKind.i64.wrap ((y : Int) + 1) = (y : Int) + 1 := by
                  rw [IntKind.wrap_i64]
                  omega
                have d1 : wr.drew.cell? ⟨b, off + y * 4 + 1, none⟩ = some (.int .i64 (t : Int)) := p1
                have d2 : wr.drew.cell? ⟨b, off + y * 4 + 2, none⟩ = some (.int .i64 ((y : Int) + 1)) := p2
                have d3 : wr.drew.cell? ⟨b, off + y * 4 + 3, none⟩ = some (.slice (some ⟨b2, off2, none⟩) 1 dc) := p3
                have d4 : wr.drew.cell? ⟨b2, off2, none⟩ = some (.int .u8 (b8 : Int)) := r0
                have F1 := hide (show Below Vd.heap.size Vd wr.drew from (unhide F).trans ((Below.refl _ _).drew))
                clear pk p4 ht
                by_cases hy0 : y = 0
                · have hgt : decide ((0 : Int) < (y : Int)) = false := by simp; omega
                  have hgt2 : decide (0 < y) = false := by simp; omega
                  clear hy0 p1 p2 p3 r0
                  go_wp2_with fail
                  refine wp_region_held_drew (S := fun w' => w'.cell? ⟨b, off + y * 4 + 1, none⟩ = some (.int .i64 (t : Int)) ∧ w'.cell? ⟨b, off + y * 4 + 2, none⟩ = some (.int .i64 ((y : Int) + 1)) ∧ w'.cell? ⟨b, off + y * 4 + 3, none⟩ = some (.slice (some ⟨b2, off2, none⟩) 1 dc) ∧ w'.cell? ⟨b2, off2, none⟩ = some (.int .u8 (b8 : Int))) (by kernel_rfl) ?_ (fun hHeld => ?_)
                  · try dsimp only
                    exact ⟨d1, d2, d3, d4⟩
                  refine held_take 0 (oi := { dst := some 116, op := Op.move (Operand.tmp 14), type := 27, pos := "top03.go:45", after := #[], guard := none }) (v := ?_) (by kernel_rfl) rfl (by rfl) (by kernel_rfl) (by kernel_rfl) (fun _ _ _ h => h) ?_ (by assumption) ?_
                  rotate_left
                  · (intro w hSw; (try dsimp only at hSw); go_simp; try with_reducible rfl)
                  try simp only [Act.put, List.setIfInBounds_toArray, List.set_cons_zero, List.set_cons_succ]
                  refine held_take 1 (oi := { dst := some 117, op := Op.move (Operand.tmp 15), type := 3, pos := "top03.go:45", after := #[], guard := none }) (v := ?_) (by kernel_rfl) rfl (by rfl) (by kernel_rfl) (by kernel_rfl) (fun _ _ _ h => h) ?_ (by assumption) ?_
                  rotate_left
                  · (intro w hSw; (try dsimp only at hSw); go_simp; try with_reducible rfl)
                  try simp only [Act.put, List.setIfInBounds_toArray, List.set_cons_zero, List.set_cons_succ]
                  refine held_take 2 (oi := { dst := some 118, op := Op.indexAddr 27 (Operand.tmp 116) (Operand.tmp 117), type := 0, pos := "top03.go:45", after := #[{ on := 0, ground := Ground.data }, { on := 1, ground := Ground.data }], guard := none }) (v := ?_) (by kernel_rfl) rfl (by rfl) (by kernel_rfl) (by kernel_rfl) (fun _ _ _ h => h) ?_ (by assumption) ?_
                  rotate_left
                  · (intro w hSw; (try dsimp only at hSw); go_simp; try with_reducible rfl)
                  try simp only [Act.put, List.setIfInBounds_toArray, List.set_cons_zero, List.set_cons_succ]
                  refine held_take 3 (oi := { dst := some 119, op := Op.fieldAddr 60 (Operand.tmp 118) 2, type := 0, pos := "top03.go:45", after := #[{ on := 2, ground := Ground.data }], guard := none }) (v := ?_) (by kernel_rfl) rfl (by rfl) (by kernel_rfl) (by kernel_rfl) (fun _ _ _ h => h) ?_ (by assumption) ?_
                  rotate_left
                  · (intro w hSw; (try dsimp only at hSw); go_simp; try with_reducible rfl)
                  try simp only [Act.put, List.setIfInBounds_toArray, List.set_cons_zero, List.set_cons_succ]
                  refine held_take 4 (oi := { dst := some 120, op := Op.load 3 (Operand.tmp 119), type := 3, pos := "top03.go:45", after := #[{ on := 3, ground := Ground.data }], guard := none }) (v := ?_) (by kernel_rfl) rfl (by rfl) (by kernel_rfl) (by kernel_rfl) (fun _ _ _ h => h) ?_ (by assumption) ?_
                  rotate_left
                  · (intro w hSw; (try dsimp only at hSw); go_simp; try with_reducible rfl)
                  try simp only [Act.put, List.setIfInBounds_toArray, List.set_cons_zero, List.set_cons_succ]
                  refine held_take 5 (oi := { dst := some 121, op := Op.move (Operand.tmp 15), type := 3, pos := "top03.go:45", after := #[], guard := none }) (v := ?_) (by kernel_rfl) rfl (by rfl) (by kernel_rfl) (by kernel_rfl) (fun _ _ _ h => h) ?_ (by assumption) ?_
                  rotate_left
                  · (intro w hSw; (try dsimp only at hSw); go_simp; try with_reducible rfl)
                  try simp only [Act.put, List.setIfInBounds_toArray, List.set_cons_zero, List.set_cons_succ]
                  refine held_take 6 (oi := { dst := some 122, op := Op.binOp BinOp.add 3 (Operand.tmp 121) (Operand.const (Value.int IntKind.i64 1)) 3, type := 3, pos := "top03.go:45", after := #[{ on := 5, ground := Ground.data }], guard := none }) (v := ?_) (by kernel_rfl) rfl (by rfl) (by kernel_rfl) (by kernel_rfl) (fun _ _ _ h => h) ?_ (by assumption) ?_
                  rotate_left
                  · (intro w hSw; (try dsimp only at hSw); go_simp; try with_reducible rfl)
                  try simp only [Act.put, List.setIfInBounds_toArray, List.set_cons_zero, List.set_cons_succ]
                  refine held_take 7 (oi := { dst := some 123, op := Op.binOp BinOp.neq 3 (Operand.tmp 120) (Operand.tmp 122) 3, type := 4, pos := "top03.go:45", after := #[{ on := 4, ground := Ground.data }, { on := 6, ground := Ground.data }], guard := none }) (v := ?_) (by kernel_rfl) rfl (by rfl) (by kernel_rfl) (by kernel_rfl) (fun _ _ _ h => h) ?_ (by assumption) ?_
                  rotate_left
                  · (intro w hSw; (try dsimp only at hSw); go_simp; try with_reducible rfl)
                  try simp only [Act.put, List.setIfInBounds_toArray, List.set_cons_zero, List.set_cons_succ]
                  refine held_take 8 (oi := { dst := some 124, op := Op.move (Operand.tmp 123), type := 4, pos := "top03.go:45", after := #[{ on := 7, ground := Ground.data }], guard := none }) (v := ?_) (by kernel_rfl) rfl (by rfl) (by kernel_rfl) (by kernel_rfl) (fun _ _ _ h => h) ?_ (by assumption) ?_
                  rotate_left
                  · (intro w hSw; (try dsimp only at hSw); go_simp; try with_reducible rfl)
                  try simp only [Act.put, List.setIfInBounds_toArray, List.set_cons_zero, List.set_cons_succ]
                  refine held_take 9 (oi := { dst := some 125, op := Op.move (Operand.tmp 14), type := 27, pos := "top03.go:45", after := #[{ on := 8, ground := Ground.guard }], guard := some (8, false) }) (v := ?_) (by kernel_rfl) rfl (by rfl) (by kernel_rfl) (by kernel_rfl) (fun _ _ _ h => h) ?_ (by assumption) ?_
                  rotate_left
                  · (intro w hSw; (try dsimp only at hSw); go_simp; try with_reducible rfl)
                  try simp only [Act.put, List.setIfInBounds_toArray, List.set_cons_zero, List.set_cons_succ]
                  refine held_take 10 (oi := { dst := some 126, op := Op.move (Operand.tmp 15), type := 3, pos := "top03.go:45", after := #[{ on := 8, ground := Ground.guard }], guard := some (8, false) }) (v := ?_) (by kernel_rfl) rfl (by rfl) (by kernel_rfl) (by kernel_rfl) (fun _ _ _ h => h) ?_ (by assumption) ?_
                  rotate_left
                  · (intro w hSw; (try dsimp only at hSw); go_simp; try with_reducible rfl)
                  try simp only [Act.put, List.setIfInBounds_toArray, List.set_cons_zero, List.set_cons_succ]
                  refine held_take 11 (oi := { dst := some 127, op := Op.indexAddr 27 (Operand.tmp 125) (Operand.tmp 126), type := 0, pos := "top03.go:45", after := #[{ on := 9, ground := Ground.data }, { on := 10, ground := Ground.data }, { on := 8, ground := Ground.guard }], guard := some (8, false) }) (v := ?_) (by kernel_rfl) rfl (by rfl) (by kernel_rfl) (by kernel_rfl) (fun _ _ _ h => h) ?_ (by assumption) ?_
                  rotate_left
                  · (intro w hSw; (try dsimp only at hSw); go_simp; try with_reducible rfl)
                  try simp only [Act.put, List.setIfInBounds_toArray, List.set_cons_zero, List.set_cons_succ]
                  refine held_take 12 (oi := { dst := some 128, op := Op.fieldAddr 60 (Operand.tmp 127) 3, type := 0, pos := "top03.go:45", after := #[{ on := 11, ground := Ground.data }, { on := 8, ground := Ground.guard }], guard := some (8, false) }) (v := ?_) (by kernel_rfl) rfl (by rfl) (by kernel_rfl) (by kernel_rfl) (fun _ _ _ h => h) ?_ (by assumption) ?_
                  rotate_left
                  · (intro w hSw; (try dsimp only at hSw); go_simp; try with_reducible rfl)
                  try simp only [Act.put, List.setIfInBounds_toArray, List.set_cons_zero, List.set_cons_succ]
                  refine held_take 13 (oi := { dst := some 129, op := Op.load 58 (Operand.tmp 128), type := 58, pos := "top03.go:45", after := #[{ on := 12, ground := Ground.data }, { on := 8, ground := Ground.guard }], guard := some (8, false) }) (v := ?_) (by kernel_rfl) rfl (by rfl) (by kernel_rfl) (by kernel_rfl) (fun _ _ _ h => h) ?_ (by assumption) ?_
                  rotate_left
                  · (intro w hSw; (try dsimp only at hSw); go_simp; try with_reducible rfl)
                  try simp only [Act.put, List.setIfInBounds_toArray, List.set_cons_zero, List.set_cons_succ]
                  refine held_take 14 (oi := { dst := some 130, op := Op.call { callee := Callee.builtin Builtin.len, args := #[Operand.tmp 129], argTypes := #[58] }, type := 3, pos := "top03.go:45", after := #[{ on := 13, ground := Ground.data }, { on := 8, ground := Ground.guard }], guard := some (8, false) }) (v := ?_) (by kernel_rfl) rfl (by rfl) (by kernel_rfl) (by kernel_rfl) (fun _ _ _ h => h) ?_ (by assumption) ?_
                  rotate_left
                  · (intro w hSw; (try dsimp only at hSw); go_simp; try with_reducible rfl)
                  try simp only [Act.put, List.setIfInBounds_toArray, List.set_cons_zero, List.set_cons_succ]
                  refine held_take 15 (oi := { dst := some 131, op := Op.binOp BinOp.neq 3 (Operand.tmp 130) (Operand.const (Value.int IntKind.i64 1)) 3, type := 4, pos := "top03.go:45", after := #[{ on := 14, ground := Ground.data }, { on := 8, ground := Ground.guard }], guard := some (8, false) }) (v := ?_) (by kernel_rfl) rfl (by rfl) (by kernel_rfl) (by kernel_rfl) (fun _ _ _ h => h) ?_ (by assumption) ?_
                  rotate_left
                  · (intro w hSw; (try dsimp only at hSw); go_simp; try with_reducible rfl)
                  try simp only [Act.put, List.setIfInBounds_toArray, List.set_cons_zero, List.set_cons_succ]
                  refine held_take 16 (oi := { dst := some 132, op := Op.pick (Operand.tmp 124) (Operand.const (Value.bool true)) (Operand.tmp 131), type := 4, pos := "top03.go:45", after := #[{ on := 8, ground := Ground.data }, { on := 15, ground := Ground.data }], guard := none }) (v := ?_) (by kernel_rfl) rfl (by rfl) (by kernel_rfl) (by kernel_rfl) (fun _ _ _ h => h) ?_ (by assumption) ?_
                  rotate_left
                  · (intro w hSw; (try dsimp only at hSw); go_simp; try with_reducible rfl)
                  try simp only [Act.put, List.setIfInBounds_toArray, List.set_cons_zero, List.set_cons_succ]
                  refine held_take 17 (oi := { dst := some 133, op := Op.move (Operand.tmp 132), type := 4, pos := "top03.go:45", after := #[{ on := 16, ground := Ground.data }, { on := 8, ground := Ground.chain }], guard := none }) (v := ?_) (by kernel_rfl) rfl (by rfl) (by kernel_rfl) (by kernel_rfl) (fun _ _ _ h => h) ?_ (by assumption) ?_
                  rotate_left
                  · (intro w hSw; (try dsimp only at hSw); go_simp; try with_reducible rfl)
                  try simp only [Act.put, List.setIfInBounds_toArray, List.set_cons_zero, List.set_cons_succ]
                  refine held_take 18 (oi := { dst := some 134, op := Op.move (Operand.tmp 14), type := 27, pos := "top03.go:45", after := #[{ on := 17, ground := Ground.guard }], guard := some (17, false) }) (v := ?_) (by kernel_rfl) rfl (by rfl) (by kernel_rfl) (by kernel_rfl) (fun _ _ _ h => h) ?_ (by assumption) ?_
                  rotate_left
                  · (intro w hSw; (try dsimp only at hSw); go_simp; try with_reducible rfl)
                  try simp only [Act.put, List.setIfInBounds_toArray, List.set_cons_zero, List.set_cons_succ]
                  refine held_take 19 (oi := { dst := some 135, op := Op.move (Operand.tmp 15), type := 3, pos := "top03.go:45", after := #[{ on := 17, ground := Ground.guard }], guard := some (17, false) }) (v := ?_) (by kernel_rfl) rfl (by rfl) (by kernel_rfl) (by kernel_rfl) (fun _ _ _ h => h) ?_ (by assumption) ?_
                  rotate_left
                  · (intro w hSw; (try dsimp only at hSw); go_simp; try with_reducible rfl)
                  try simp only [Act.put, List.setIfInBounds_toArray, List.set_cons_zero, List.set_cons_succ]
                  refine held_take 20 (oi := { dst := some 136, op := Op.indexAddr 27 (Operand.tmp 134) (Operand.tmp 135), type := 0, pos := "top03.go:45", after := #[{ on := 18, ground := Ground.data }, { on := 19, ground := Ground.data }, { on := 17, ground := Ground.guard }], guard := some (17, false) }) (v := ?_) (by kernel_rfl) rfl (by rfl) (by kernel_rfl) (by kernel_rfl) (fun _ _ _ h => h) ?_ (by assumption) ?_
                  rotate_left
                  · (intro w hSw; (try dsimp only at hSw); go_simp; try with_reducible rfl)
                  try simp only [Act.put, List.setIfInBounds_toArray, List.set_cons_zero, List.set_cons_succ]
                  refine held_take 21 (oi := { dst := some 137, op := Op.fieldAddr 60 (Operand.tmp 136) 3, type := 0, pos := "top03.go:45", after := #[{ on := 20, ground := Ground.data }, { on := 17, ground := Ground.guard }], guard := some (17, false) }) (v := ?_) (by kernel_rfl) rfl (by rfl) (by kernel_rfl) (by kernel_rfl) (fun _ _ _ h => h) ?_ (by assumption) ?_
                  rotate_left
                  · (intro w hSw; (try dsimp only at hSw); go_simp; try with_reducible rfl)
                  try simp only [Act.put, List.setIfInBounds_toArray, List.set_cons_zero, List.set_cons_succ]
                  refine held_take 22 (oi := { dst := some 138, op := Op.load 58 (Operand.tmp 137), type := 58, pos := "top03.go:45", after := #[{ on := 21, ground := Ground.data }, { on := 17, ground := Ground.guard }], guard := some (17, false) }) (v := ?_) (by kernel_rfl) rfl (by rfl) (by kernel_rfl) (by kernel_rfl) (fun _ _ _ h => h) ?_ (by assumption) ?_
                  rotate_left
                  · (intro w hSw; (try dsimp only at hSw); go_simp; try with_reducible rfl)
                  try simp only [Act.put, List.setIfInBounds_toArray, List.set_cons_zero, List.set_cons_succ]
                  refine held_take 23 (oi := { dst := some 139, op := Op.indexAddr 58 (Operand.tmp 138) (Operand.const (Value.int IntKind.i64 0)), type := 0, pos := "top03.go:45", after := #[{ on := 22, ground := Ground.data }, { on := 17, ground := Ground.guard }], guard := some (17, false) }) (v := ?_) (by kernel_rfl) rfl (by rfl) (by kernel_rfl) (by kernel_rfl) (fun _ _ _ h => h) ?_ (by assumption) ?_
                  rotate_left
                  · (intro w hSw; (try dsimp only at hSw); go_simp; try with_reducible rfl)
                  try simp only [Act.put, List.setIfInBounds_toArray, List.set_cons_zero, List.set_cons_succ]
                  refine held_take 24 (oi := { dst := some 140, op := Op.load 5 (Operand.tmp 139), type := 5, pos := "top03.go:45", after := #[{ on := 23, ground := Ground.data }, { on := 17, ground := Ground.guard }], guard := some (17, false) }) (v := ?_) (by kernel_rfl) rfl (by rfl) (by kernel_rfl) (by kernel_rfl) (fun _ _ _ h => h) ?_ (by assumption) ?_
                  rotate_left
                  · (intro w hSw; (try dsimp only at hSw); go_simp; try with_reducible rfl)
                  try simp only [Act.put, List.setIfInBounds_toArray, List.set_cons_zero, List.set_cons_succ]
                  refine held_take 25 (oi := { dst := some 141, op := Op.move (Operand.tmp 15), type := 3, pos := "top03.go:45", after := #[{ on := 17, ground := Ground.guard }], guard := some (17, false) }) (v := ?_) (by kernel_rfl) rfl (by rfl) (by kernel_rfl) (by kernel_rfl) (fun _ _ _ h => h) ?_ (by assumption) ?_
                  rotate_left
                  · (intro w hSw; (try dsimp only at hSw); go_simp; try with_reducible rfl)
                  try simp only [Act.put, List.setIfInBounds_toArray, List.set_cons_zero, List.set_cons_succ]
                  refine held_take 26 (oi := { dst := some 142, op := Op.binOp BinOp.add 3 (Operand.tmp 141) (Operand.const (Value.int IntKind.i64 1)) 3, type := 3, pos := "top03.go:45", after := #[{ on := 25, ground := Ground.data }, { on := 17, ground := Ground.guard }], guard := some (17, false) }) (v := ?_) (by kernel_rfl) rfl (by rfl) (by kernel_rfl) (by kernel_rfl) (fun _ _ _ h => h) ?_ (by assumption) ?_
                  rotate_left
                  · (intro w hSw; (try dsimp only at hSw); go_simp; try with_reducible rfl)
                  try simp only [Act.put, List.setIfInBounds_toArray, List.set_cons_zero, List.set_cons_succ]
                  refine held_take 27 (oi := { dst := some 143, op := Op.convert 3 5 (Operand.tmp 142), type := 5, pos := "top03.go:45", after := #[{ on := 26, ground := Ground.data }, { on := 17, ground := Ground.guard }], guard := some (17, false) }) (v := ?_) (by kernel_rfl) rfl (by rfl) (by kernel_rfl) (by kernel_rfl) (fun _ _ _ h => h) ?_ (by assumption) ?_
                  rotate_left
                  · (intro w hSw; (try dsimp only at hSw); go_simp; try with_reducible rfl)
                  try simp only [Act.put, List.setIfInBounds_toArray, List.set_cons_zero, List.set_cons_succ]
                  refine held_take 28 (oi := { dst := some 144, op := Op.binOp BinOp.neq 5 (Operand.tmp 140) (Operand.tmp 143) 5, type := 4, pos := "top03.go:45", after := #[{ on := 24, ground := Ground.data }, { on := 27, ground := Ground.data }, { on := 17, ground := Ground.guard }], guard := some (17, false) }) (v := ?_) (by kernel_rfl) rfl (by rfl) (by kernel_rfl) (by kernel_rfl) (fun _ _ _ h => h) ?_ (by assumption) ?_
                  rotate_left
                  · (intro w hSw; (try dsimp only at hSw); go_simp; try with_reducible rfl)
                  try simp only [Act.put, List.setIfInBounds_toArray, List.set_cons_zero, List.set_cons_succ]
                  refine held_take 29 (oi := { dst := some 145, op := Op.pick (Operand.tmp 133) (Operand.const (Value.bool true)) (Operand.tmp 144), type := 4, pos := "top03.go:45", after := #[{ on := 17, ground := Ground.data }, { on := 28, ground := Ground.data }], guard := none }) (v := ?_) (by kernel_rfl) rfl (by rfl) (by kernel_rfl) (by kernel_rfl) (fun _ _ _ h => h) ?_ (by assumption) ?_
                  rotate_left
                  · (intro w hSw; (try dsimp only at hSw); go_simp; try with_reducible rfl)
                  try simp only [Act.put, List.setIfInBounds_toArray, List.set_cons_zero, List.set_cons_succ]
                  refine held_take 30 (oi := { dst := some 146, op := Op.move (Operand.tmp 145), type := 4, pos := "top03.go:45", after := #[{ on := 29, ground := Ground.data }, { on := 17, ground := Ground.chain }], guard := none }) (v := ?_) (by kernel_rfl) rfl (by rfl) (by kernel_rfl) (by kernel_rfl) (fun _ _ _ h => h) ?_ (by assumption) ?_
                  rotate_left
                  · (intro w hSw; (try dsimp only at hSw); go_simp; try with_reducible rfl)
                  try simp only [Act.put, List.setIfInBounds_toArray, List.set_cons_zero, List.set_cons_succ]
                  refine held_take 31 (oi := { dst := some 147, op := Op.move (Operand.tmp 15), type := 3, pos := "top03.go:45", after := #[{ on := 30, ground := Ground.guard }], guard := some (30, false) }) (v := ?_) (by kernel_rfl) rfl (by rfl) (by kernel_rfl) (by kernel_rfl) (fun _ _ _ h => h) ?_ (by assumption) ?_
                  rotate_left
                  · (intro w hSw; (try dsimp only at hSw); go_simp; try with_reducible rfl)
                  try simp only [Act.put, List.setIfInBounds_toArray, List.set_cons_zero, List.set_cons_succ]
                  refine held_take 32 (oi := { dst := some 148, op := Op.binOp BinOp.gtr 3 (Operand.tmp 147) (Operand.const (Value.int IntKind.i64 0)) 3, type := 4, pos := "top03.go:45", after := #[{ on := 31, ground := Ground.data }, { on := 30, ground := Ground.guard }], guard := some (30, false) }) (v := ?_) (by kernel_rfl) rfl (by rfl) (by kernel_rfl) (by kernel_rfl) (fun _ _ _ h => h) ?_ (by assumption) ?_
                  rotate_left
                  · (intro w hSw; (try dsimp only at hSw); go_simp; try with_reducible rfl)
                  try simp only [Act.put, List.setIfInBounds_toArray, List.set_cons_zero, List.set_cons_succ]
                  refine held_take 33 (oi := { dst := some 149, op := Op.move (Operand.tmp 148), type := 4, pos := "top03.go:45", after := #[{ on := 32, ground := Ground.data }, { on := 30, ground := Ground.chain }, { on := 30, ground := Ground.guard }], guard := some (30, false) }) (v := ?_) (by kernel_rfl) rfl (by rfl) (by kernel_rfl) (by kernel_rfl) (fun _ _ _ h => h) ?_ (by assumption) ?_
                  rotate_left
                  · (intro w hSw; (try dsimp only at hSw); go_simp; try with_reducible rfl)
                  try simp only [Act.put, List.setIfInBounds_toArray, List.set_cons_zero, List.set_cons_succ]
                  refine held_skip 34 (oi := { dst := some 150, op := Op.move (Operand.tmp 14), type := 27, pos := "top03.go:45", after := #[{ on := 33, ground := Ground.guard }], guard := some (33, true) }) (by kernel_rfl) rfl (by rfl) (by kernel_rfl) (by kernel_rfl) (fun _ _ _ h => h) (by assumption) ?_
                  try simp only [Act.put, List.setIfInBounds_toArray, List.set_cons_zero, List.set_cons_succ]
                  refine held_skip 35 (oi := { dst := some 151, op := Op.move (Operand.tmp 15), type := 3, pos := "top03.go:45", after := #[{ on := 33, ground := Ground.guard }], guard := some (33, true) }) (by kernel_rfl) rfl (by rfl) (by kernel_rfl) (by kernel_rfl) (fun _ _ _ h => h) (by assumption) ?_
                  try simp only [Act.put, List.setIfInBounds_toArray, List.set_cons_zero, List.set_cons_succ]
                  refine held_skip 36 (oi := { dst := some 152, op := Op.indexAddr 27 (Operand.tmp 150) (Operand.tmp 151), type := 0, pos := "top03.go:45", after := #[{ on := 34, ground := Ground.data }, { on := 35, ground := Ground.data }, { on := 33, ground := Ground.guard }], guard := some (33, true) }) (by kernel_rfl) rfl (by rfl) (by kernel_rfl) (by kernel_rfl) (fun _ _ _ h => h) (by assumption) ?_
                  try simp only [Act.put, List.setIfInBounds_toArray, List.set_cons_zero, List.set_cons_succ]
                  refine held_skip 37 (oi := { dst := some 153, op := Op.fieldAddr 60 (Operand.tmp 152) 1, type := 0, pos := "top03.go:45", after := #[{ on := 36, ground := Ground.data }, { on := 33, ground := Ground.guard }], guard := some (33, true) }) (by kernel_rfl) rfl (by rfl) (by kernel_rfl) (by kernel_rfl) (fun _ _ _ h => h) (by assumption) ?_
                  try simp only [Act.put, List.setIfInBounds_toArray, List.set_cons_zero, List.set_cons_succ]
                  refine held_skip 38 (oi := { dst := some 154, op := Op.load 3 (Operand.tmp 153), type := 3, pos := "top03.go:45", after := #[{ on := 37, ground := Ground.data }, { on := 33, ground := Ground.guard }], guard := some (33, true) }) (by kernel_rfl) rfl (by rfl) (by kernel_rfl) (by kernel_rfl) (fun _ _ _ h => h) (by assumption) ?_
                  try simp only [Act.put, List.setIfInBounds_toArray, List.set_cons_zero, List.set_cons_succ]
                  refine held_skip 39 (oi := { dst := some 155, op := Op.move (Operand.tmp 14), type := 27, pos := "top03.go:45", after := #[{ on := 33, ground := Ground.guard }], guard := some (33, true) }) (by kernel_rfl) rfl (by rfl) (by kernel_rfl) (by kernel_rfl) (fun _ _ _ h => h) (by assumption) ?_
                  try simp only [Act.put, List.setIfInBounds_toArray, List.set_cons_zero, List.set_cons_succ]
                  refine held_skip 40 (oi := { dst := some 156, op := Op.move (Operand.tmp 15), type := 3, pos := "top03.go:45", after := #[{ on := 33, ground := Ground.guard }], guard := some (33, true) }) (by kernel_rfl) rfl (by rfl) (by kernel_rfl) (by kernel_rfl) (fun _ _ _ h => h) (by assumption) ?_
                  try simp only [Act.put, List.setIfInBounds_toArray, List.set_cons_zero, List.set_cons_succ]
                  refine held_skip 41 (oi := { dst := some 157, op := Op.binOp BinOp.sub 3 (Operand.tmp 156) (Operand.const (Value.int IntKind.i64 1)) 3, type := 3, pos := "top03.go:45", after := #[{ on := 40, ground := Ground.data }, { on := 33, ground := Ground.guard }], guard := some (33, true) }) (by kernel_rfl) rfl (by rfl) (by kernel_rfl) (by kernel_rfl) (fun _ _ _ h => h) (by assumption) ?_
                  try simp only [Act.put, List.setIfInBounds_toArray, List.set_cons_zero, List.set_cons_succ]
                  refine held_skip 42 (oi := { dst := some 158, op := Op.indexAddr 27 (Operand.tmp 155) (Operand.tmp 157), type := 0, pos := "top03.go:45", after := #[{ on := 39, ground := Ground.data }, { on := 41, ground := Ground.data }, { on := 33, ground := Ground.guard }], guard := some (33, true) }) (by kernel_rfl) rfl (by rfl) (by kernel_rfl) (by kernel_rfl) (fun _ _ _ h => h) (by assumption) ?_
                  try simp only [Act.put, List.setIfInBounds_toArray, List.set_cons_zero, List.set_cons_succ]
                  refine held_skip 43 (oi := { dst := some 159, op := Op.fieldAddr 60 (Operand.tmp 158) 1, type := 0, pos := "top03.go:45", after := #[{ on := 42, ground := Ground.data }, { on := 33, ground := Ground.guard }], guard := some (33, true) }) (by kernel_rfl) rfl (by rfl) (by kernel_rfl) (by kernel_rfl) (fun _ _ _ h => h) (by assumption) ?_
                  try simp only [Act.put, List.setIfInBounds_toArray, List.set_cons_zero, List.set_cons_succ]
                  refine held_skip 44 (oi := { dst := some 160, op := Op.load 3 (Operand.tmp 159), type := 3, pos := "top03.go:45", after := #[{ on := 43, ground := Ground.data }, { on := 33, ground := Ground.guard }], guard := some (33, true) }) (by kernel_rfl) rfl (by rfl) (by kernel_rfl) (by kernel_rfl) (fun _ _ _ h => h) (by assumption) ?_
                  try simp only [Act.put, List.setIfInBounds_toArray, List.set_cons_zero, List.set_cons_succ]
                  refine held_skip 45 (oi := { dst := some 161, op := Op.binOp BinOp.lss 3 (Operand.tmp 154) (Operand.tmp 160) 3, type := 4, pos := "top03.go:45", after := #[{ on := 38, ground := Ground.data }, { on := 44, ground := Ground.data }, { on := 33, ground := Ground.guard }], guard := some (33, true) }) (by kernel_rfl) rfl (by rfl) (by kernel_rfl) (by kernel_rfl) (fun _ _ _ h => h) (by assumption) ?_
                  try simp only [Act.put, List.setIfInBounds_toArray, List.set_cons_zero, List.set_cons_succ]
                  refine held_take 46 (oi := { dst := some 162, op := Op.pick (Operand.tmp 149) (Operand.tmp 161) (Operand.const (Value.bool false)), type := 4, pos := "top03.go:45", after := #[{ on := 33, ground := Ground.data }, { on := 45, ground := Ground.data }, { on := 30, ground := Ground.guard }], guard := some (30, false) }) (v := ?_) (by kernel_rfl) rfl (by rfl) (by kernel_rfl) (by kernel_rfl) (fun _ _ _ h => h) ?_ (by assumption) ?_
                  rotate_left
                  · (intro w hSw; (try dsimp only at hSw); go_simp; try with_reducible rfl)
                  try simp only [Act.put, List.setIfInBounds_toArray, List.set_cons_zero, List.set_cons_succ]
                  refine held_take 47 (oi := { dst := some 163, op := Op.pick (Operand.tmp 146) (Operand.const (Value.bool true)) (Operand.tmp 162), type := 4, pos := "top03.go:45", after := #[{ on := 30, ground := Ground.data }, { on := 46, ground := Ground.data }], guard := none }) (v := ?_) (by kernel_rfl) rfl (by rfl) (by kernel_rfl) (by kernel_rfl) (fun _ _ _ h => h) ?_ (by assumption) ?_
                  rotate_left
                  · (intro w hSw; (try dsimp only at hSw); go_simp; try with_reducible rfl)
                  try simp only [Act.put, List.setIfInBounds_toArray, List.set_cons_zero, List.set_cons_succ]
                  refine wpAnyH_done (by kernel_rfl) ?_ _
                  go_wp2
                  exact ⟨⟨y + 1, by omega, by go_num, F1⟩, by simp [intOf]; omega⟩
                · have hyp : (0 : Int) < (y : Int) := by omega
                  obtain ⟨z, hz⟩ : ∃ z, y = z + 1 := ⟨y - 1, by omega⟩
                  have hwm : IntKind.i64.wrap ((y : Int) - 1) = (z : Int) := by
                    rw [IntKind.wrap_i64]
                    omega
                  have x0 : (0 : Int) ≤ (z : Int) := by omega
                  have x1 : (z : Int) < (md : Int) := by omega
                  have hzl : z < c8.es.length := by have := unhide HYL; omega
                  obtain ⟨b', off', _, _, e', _, q1, _, _, _, _⟩ := ((unhide EA).later (unhide F)).cell z (by rw [List.length_map]; exact hzl)
                  cases e'
                  rw [List.getElem_map] at q1
                  simp only [toI] at q1
                  have hup : c8.es[z].2.1 ≤ t := by
                    have h1 := (unhide LV8).tr.up z (by have := unhide HYL; omega)
                    have h2 : c8.es[z + 1]'(by have := unhide HYL; omega) = c8.es[y]'(unhide HYL) := by simp only [hz]
                    rw [h2, unhide HT] at h1
                    exact h1
                  generalize c8.es[z].2.1 = t' at *
                  have d5 : wr.drew.cell? ⟨b, off + z * 4 + 1, none⟩ = some (.int .i64 (t' : Int)) := q1
                  have hlt : decide ((t : Int) < (t' : Int)) = false := by simp; omega
                  have hlt2 : ¬ (t : Int) < (t' : Int) := by omega
                  have hgt : decide ((0 : Int) < (y : Int)) = true := by simp; omega
                  have hgt2 : decide (0 < y) = true := by simp; omega
                  have hlt3 : decide (t < t') = false := by simp; omega
                  clear hz hy0 hup q1 p1 p2 p3 r0
                  go_wp2_with fail
                  refine wp_region_held_drew (S := fun w' => w'.cell? ⟨b, off + y * 4 + 1, none⟩ = some (.int .i64 (t : Int)) ∧ w'.cell? ⟨b, off + y * 4 + 2, none⟩ = some (.int .i64 ((y : Int) + 1)) ∧ w'.cell? ⟨b, off + y * 4 + 3, none⟩ = some (.slice (some ⟨b2, off2, none⟩) 1 dc) ∧ w'.cell? ⟨b2, off2, none⟩ = some (.int .u8 (b8 : Int)) ∧ w'.cell? ⟨b, off + z * 4 + 1, none⟩ = some (.int .i64 (t' : Int))) (by kernel_rfl) ?_ (fun hHeld => ?_)
                  · try dsimp only
                    exact ⟨d1, d2, d3, d4, d5⟩
                  refine held_take 0 (oi := { dst := some 116, op := Op.move (Operand.tmp 14), type := 27, pos := "top03.go:45", after := #[], guard := none }) (v := ?_) (by kernel_rfl) rfl (by rfl) (by kernel_rfl) (by kernel_rfl) (fun _ _ _ h => h) ?_ (by assumption) ?_
                  rotate_left
                  · (intro w hSw; (try dsimp only at hSw); go_simp; try with_reducible rfl)
                  try simp only [Act.put, List.setIfInBounds_toArray, List.set_cons_zero, List.set_cons_succ]
                  refine held_take 1 (oi := { dst := some 117, op := Op.move (Operand.tmp 15), type := 3, pos := "top03.go:45", after := #[], guard := none }) (v := ?_) (by kernel_rfl) rfl (by rfl) (by kernel_rfl) (by kernel_rfl) (fun _ _ _ h => h) ?_ (by assumption) ?_
                  rotate_left
                  · (intro w hSw; (try dsimp only at hSw); go_simp; try with_reducible rfl)
                  try simp only [Act.put, List.setIfInBounds_toArray, List.set_cons_zero, List.set_cons_succ]
                  refine held_take 2 (oi := { dst := some 118, op := Op.indexAddr 27 (Operand.tmp 116) (Operand.tmp 117), type := 0, pos := "top03.go:45", after := #[{ on := 0, ground := Ground.data }, { on := 1, ground := Ground.data }], guard := none }) (v := ?_) (by kernel_rfl) rfl (by rfl) (by kernel_rfl) (by kernel_rfl) (fun _ _ _ h => h) ?_ (by assumption) ?_
                  rotate_left
                  · (intro w hSw; (try dsimp only at hSw); go_simp; try with_reducible rfl)
                  try simp only [Act.put, List.setIfInBounds_toArray, List.set_cons_zero, List.set_cons_succ]
                  refine held_take 3 (oi := { dst := some 119, op := Op.fieldAddr 60 (Operand.tmp 118) 2, type := 0, pos := "top03.go:45", after := #[{ on := 2, ground := Ground.data }], guard := none }) (v := ?_) (by kernel_rfl) rfl (by rfl) (by kernel_rfl) (by kernel_rfl) (fun _ _ _ h => h) ?_ (by assumption) ?_
                  rotate_left
                  · (intro w hSw; (try dsimp only at hSw); go_simp; try with_reducible rfl)
                  try simp only [Act.put, List.setIfInBounds_toArray, List.set_cons_zero, List.set_cons_succ]
                  refine held_take 4 (oi := { dst := some 120, op := Op.load 3 (Operand.tmp 119), type := 3, pos := "top03.go:45", after := #[{ on := 3, ground := Ground.data }], guard := none }) (v := ?_) (by kernel_rfl) rfl (by rfl) (by kernel_rfl) (by kernel_rfl) (fun _ _ _ h => h) ?_ (by assumption) ?_
                  rotate_left
                  · (intro w hSw; (try dsimp only at hSw); go_simp; try with_reducible rfl)
                  try simp only [Act.put, List.setIfInBounds_toArray, List.set_cons_zero, List.set_cons_succ]
                  refine held_take 5 (oi := { dst := some 121, op := Op.move (Operand.tmp 15), type := 3, pos := "top03.go:45", after := #[], guard := none }) (v := ?_) (by kernel_rfl) rfl (by rfl) (by kernel_rfl) (by kernel_rfl) (fun _ _ _ h => h) ?_ (by assumption) ?_
                  rotate_left
                  · (intro w hSw; (try dsimp only at hSw); go_simp; try with_reducible rfl)
                  try simp only [Act.put, List.setIfInBounds_toArray, List.set_cons_zero, List.set_cons_succ]
                  refine held_take 6 (oi := { dst := some 122, op := Op.binOp BinOp.add 3 (Operand.tmp 121) (Operand.const (Value.int IntKind.i64 1)) 3, type := 3, pos := "top03.go:45", after := #[{ on := 5, ground := Ground.data }], guard := none }) (v := ?_) (by kernel_rfl) rfl (by rfl) (by kernel_rfl) (by kernel_rfl) (fun _ _ _ h => h) ?_ (by assumption) ?_
                  rotate_left
                  · (intro w hSw; (try dsimp only at hSw); go_simp; try with_reducible rfl)
                  try simp only [Act.put, List.setIfInBounds_toArray, List.set_cons_zero, List.set_cons_succ]
                  refine held_take 7 (oi := { dst := some 123, op := Op.binOp BinOp.neq 3 (Operand.tmp 120) (Operand.tmp 122) 3, type := 4, pos := "top03.go:45", after := #[{ on := 4, ground := Ground.data }, { on := 6, ground := Ground.data }], guard := none }) (v := ?_) (by kernel_rfl) rfl (by rfl) (by kernel_rfl) (by kernel_rfl) (fun _ _ _ h => h) ?_ (by assumption) ?_
                  rotate_left
                  · (intro w hSw; (try dsimp only at hSw); go_simp; try with_reducible rfl)
                  try simp only [Act.put, List.setIfInBounds_toArray, List.set_cons_zero, List.set_cons_succ]
                  refine held_take 8 (oi := { dst := some 124, op := Op.move (Operand.tmp 123), type := 4, pos := "top03.go:45", after := #[{ on := 7, ground := Ground.data }], guard := none }) (v := ?_) (by kernel_rfl) rfl (by rfl) (by kernel_rfl) (by kernel_rfl) (fun _ _ _ h => h) ?_ (by assumption) ?_
                  rotate_left
                  · (intro w hSw; (try dsimp only at hSw); go_simp; try with_reducible rfl)
                  try simp only [Act.put, List.setIfInBounds_toArray, List.set_cons_zero, List.set_cons_succ]
                  refine held_take 9 (oi := { dst := some 125, op := Op.move (Operand.tmp 14), type := 27, pos := "top03.go:45", after := #[{ on := 8, ground := Ground.guard }], guard := some (8, false) }) (v := ?_) (by kernel_rfl) rfl (by rfl) (by kernel_rfl) (by kernel_rfl) (fun _ _ _ h => h) ?_ (by assumption) ?_
                  rotate_left
                  · (intro w hSw; (try dsimp only at hSw); go_simp; try with_reducible rfl)
                  try simp only [Act.put, List.setIfInBounds_toArray, List.set_cons_zero, List.set_cons_succ]
                  refine held_take 10 (oi := { dst := some 126, op := Op.move (Operand.tmp 15), type := 3, pos := "top03.go:45", after := #[{ on := 8, ground := Ground.guard }], guard := some (8, false) }) (v := ?_) (by kernel_rfl) rfl (by rfl) (by kernel_rfl) (by kernel_rfl) (fun _ _ _ h => h) ?_ (by assumption) ?_
                  rotate_left
                  · (intro w hSw; (try dsimp only at hSw); go_simp; try with_reducible rfl)
                  try simp only [Act.put, List.setIfInBounds_toArray, List.set_cons_zero, List.set_cons_succ]
                  refine held_take 11 (oi := { dst := some 127, op := Op.indexAddr 27 (Operand.tmp 125) (Operand.tmp 126), type := 0, pos := "top03.go:45", after := #[{ on := 9, ground := Ground.data }, { on := 10, ground := Ground.data }, { on := 8, ground := Ground.guard }], guard := some (8, false) }) (v := ?_) (by kernel_rfl) rfl (by rfl) (by kernel_rfl) (by kernel_rfl) (fun _ _ _ h => h) ?_ (by assumption) ?_
                  rotate_left
                  · (intro w hSw; (try dsimp only at hSw); go_simp; try with_reducible rfl)
                  try simp only [Act.put, List.setIfInBounds_toArray, List.set_cons_zero, List.set_cons_succ]
                  refine held_take 12 (oi := { dst := some 128, op := Op.fieldAddr 60 (Operand.tmp 127) 3, type := 0, pos := "top03.go:45", after := #[{ on := 11, ground := Ground.data }, { on := 8, ground := Ground.guard }], guard := some (8, false) }) (v := ?_) (by kernel_rfl) rfl (by rfl) (by kernel_rfl) (by kernel_rfl) (fun _ _ _ h => h) ?_ (by assumption) ?_
                  rotate_left
                  · (intro w hSw; (try dsimp only at hSw); go_simp; try with_reducible rfl)
                  try simp only [Act.put, List.setIfInBounds_toArray, List.set_cons_zero, List.set_cons_succ]
                  refine held_take 13 (oi := { dst := some 129, op := Op.load 58 (Operand.tmp 128), type := 58, pos := "top03.go:45", after := #[{ on := 12, ground := Ground.data }, { on := 8, ground := Ground.guard }], guard := some (8, false) }) (v := ?_) (by kernel_rfl) rfl (by rfl) (by kernel_rfl) (by kernel_rfl) (fun _ _ _ h => h) ?_ (by assumption) ?_
                  rotate_left
                  · (intro w hSw; (try dsimp only at hSw); go_simp; try with_reducible rfl)
                  try simp only [Act.put, List.setIfInBounds_toArray, List.set_cons_zero, List.set_cons_succ]
                  refine held_take 14 (oi := { dst := some 130, op := Op.call { callee := Callee.builtin Builtin.len, args := #[Operand.tmp 129], argTypes := #[58] }, type := 3, pos := "top03.go:45", after := #[{ on := 13, ground := Ground.data }, { on := 8, ground := Ground.guard }], guard := some (8, false) }) (v := ?_) (by kernel_rfl) rfl (by rfl) (by kernel_rfl) (by kernel_rfl) (fun _ _ _ h => h) ?_ (by assumption) ?_
                  rotate_left
                  · (intro w hSw; (try dsimp only at hSw); go_simp; try with_reducible rfl)
                  try simp only [Act.put, List.setIfInBounds_toArray, List.set_cons_zero, List.set_cons_succ]
                  refine held_take 15 (oi := { dst := some 131, op := Op.binOp BinOp.neq 3 (Operand.tmp 130) (Operand.const (Value.int IntKind.i64 1)) 3, type := 4, pos := "top03.go:45", after := #[{ on := 14, ground := Ground.data }, { on := 8, ground := Ground.guard }], guard := some (8, false) }) (v := ?_) (by kernel_rfl) rfl (by rfl) (by kernel_rfl) (by kernel_rfl) (fun _ _ _ h => h) ?_ (by assumption) ?_
                  rotate_left
                  · (intro w hSw; (try dsimp only at hSw); go_simp; try with_reducible rfl)
                  try simp only [Act.put, List.setIfInBounds_toArray, List.set_cons_zero, List.set_cons_succ]
                  refine held_take 16 (oi := { dst := some 132, op := Op.pick (Operand.tmp 124) (Operand.const (Value.bool true)) (Operand.tmp 131), type := 4, pos := "top03.go:45", after := #[{ on := 8, ground := Ground.data }, { on := 15, ground := Ground.data }], guard := none }) (v := ?_) (by kernel_rfl) rfl (by rfl) (by kernel_rfl) (by kernel_rfl) (fun _ _ _ h => h) ?_ (by assumption) ?_
                  rotate_left
                  · (intro w hSw; (try dsimp only at hSw); go_simp; try with_reducible rfl)
                  try simp only [Act.put, List.setIfInBounds_toArray, List.set_cons_zero, List.set_cons_succ]
                  refine held_take 17 (oi := { dst := some 133, op := Op.move (Operand.tmp 132), type := 4, pos := "top03.go:45", after := #[{ on := 16, ground := Ground.data }, { on := 8, ground := Ground.chain }], guard := none }) (v := ?_) (by kernel_rfl) rfl (by rfl) (by kernel_rfl) (by kernel_rfl) (fun _ _ _ h => h) ?_ (by assumption) ?_
                  rotate_left
                  · (intro w hSw; (try dsimp only at hSw); go_simp; try with_reducible rfl)
                  try simp only [Act.put, List.setIfInBounds_toArray, List.set_cons_zero, List.set_cons_succ]
                  refine held_take 18 (oi := { dst := some 134, op := Op.move (Operand.tmp 14), type := 27, pos := "top03.go:45", after := #[{ on := 17, ground := Ground.guard }], guard := some (17, false) }) (v := ?_) (by kernel_rfl) rfl (by rfl) (by kernel_rfl) (by kernel_rfl) (fun _ _ _ h => h) ?_ (by assumption) ?_
                  rotate_left
                  · (intro w hSw; (try dsimp only at hSw); go_simp; try with_reducible rfl)
                  try simp only [Act.put, List.setIfInBounds_toArray, List.set_cons_zero, List.set_cons_succ]
                  refine held_take 19 (oi := { dst := some 135, op := Op.move (Operand.tmp 15), type := 3, pos := "top03.go:45", after := #[{ on := 17, ground := Ground.guard }], guard := some (17, false) }) (v := ?_) (by kernel_rfl) rfl (by rfl) (by kernel_rfl) (by kernel_rfl) (fun _ _ _ h => h) ?_ (by assumption) ?_
                  rotate_left
                  · (intro w hSw; (try dsimp only at hSw); go_simp; try with_reducible rfl)
                  try simp only [Act.put, List.setIfInBounds_toArray, List.set_cons_zero, List.set_cons_succ]
                  refine held_take 20 (oi := { dst := some 136, op := Op.indexAddr 27 (Operand.tmp 134) (Operand.tmp 135), type := 0, pos := "top03.go:45", after := #[{ on := 18, ground := Ground.data }, { on := 19, ground := Ground.data }, { on := 17, ground := Ground.guard }], guard := some (17, false) }) (v := ?_) (by kernel_rfl) rfl (by rfl) (by kernel_rfl) (by kernel_rfl) (fun _ _ _ h => h) ?_ (by assumption) ?_
                  rotate_left
                  · (intro w hSw; (try dsimp only at hSw); go_simp; try with_reducible rfl)
                  try simp only [Act.put, List.setIfInBounds_toArray, List.set_cons_zero, List.set_cons_succ]
                  refine held_take 21 (oi := { dst := some 137, op := Op.fieldAddr 60 (Operand.tmp 136) 3, type := 0, pos := "top03.go:45", after := #[{ on := 20, ground := Ground.data }, { on := 17, ground := Ground.guard }], guard := some (17, false) }) (v := ?_) (by kernel_rfl) rfl (by rfl) (by kernel_rfl) (by kernel_rfl) (fun _ _ _ h => h) ?_ (by assumption) ?_
                  rotate_left
                  · (intro w hSw; (try dsimp only at hSw); go_simp; try with_reducible rfl)
                  try simp only [Act.put, List.setIfInBounds_toArray, List.set_cons_zero, List.set_cons_succ]
                  refine held_take 22 (oi := { dst := some 138, op := Op.load 58 (Operand.tmp 137), type := 58, pos := "top03.go:45", after := #[{ on := 21, ground := Ground.data }, { on := 17, ground := Ground.guard }], guard := some (17, false) }) (v := ?_) (by kernel_rfl) rfl (by rfl) (by kernel_rfl) (by kernel_rfl) (fun _ _ _ h => h) ?_ (by assumption) ?_
                  rotate_left
                  · (intro w hSw; (try dsimp only at hSw); go_simp; try with_reducible rfl)
                  try simp only [Act.put, List.setIfInBounds_toArray, List.set_cons_zero, List.set_cons_succ]
                  refine held_take 23 (oi := { dst := some 139, op := Op.indexAddr 58 (Operand.tmp 138) (Operand.const (Value.int IntKind.i64 0)), type := 0, pos := "top03.go:45", after := #[{ on := 22, ground := Ground.data }, { on := 17, ground := Ground.guard }], guard := some (17, false) }) (v := ?_) (by kernel_rfl) rfl (by rfl) (by kernel_rfl) (by kernel_rfl) (fun _ _ _ h => h) ?_ (by assumption) ?_
                  rotate_left
                  · (intro w hSw; (try dsimp only at hSw); go_simp; try with_reducible rfl)
                  try simp only [Act.put, List.setIfInBounds_toArray, List.set_cons_zero, List.set_cons_succ]
                  refine held_take 24 (oi := { dst := some 140, op := Op.load 5 (Operand.tmp 139), type := 5, pos := "top03.go:45", after := #[{ on := 23, ground := Ground.data }, { on := 17, ground := Ground.guard }], guard := some (17, false) }) (v := ?_) (by kernel_rfl) rfl (by rfl) (by kernel_rfl) (by kernel_rfl) (fun _ _ _ h => h) ?_ (by assumption) ?_
                  rotate_left
                  · (intro w hSw; (try dsimp only at hSw); go_simp; try with_reducible rfl)
                  try simp only [Act.put, List.setIfInBounds_toArray, List.set_cons_zero, List.set_cons_succ]
                  refine held_take 25 (oi := { dst := some 141, op := Op.move (Operand.tmp 15), type := 3, pos := "top03.go:45", after := #[{ on := 17, ground := Ground.guard }], guard := some (17, false) }) (v := ?_) (by kernel_rfl) rfl (by rfl) (by kernel_rfl) (by kernel_rfl) (fun _ _ _ h => h) ?_ (by assumption) ?_
                  rotate_left
                  · (intro w hSw; (try dsimp only at hSw); go_simp; try with_reducible rfl)
                  try simp only [Act.put, List.setIfInBounds_toArray, List.set_cons_zero, List.set_cons_succ]
                  refine held_take 26 (oi := { dst := some 142, op := Op.binOp BinOp.add 3 (Operand.tmp 141) (Operand.const (Value.int IntKind.i64 1)) 3, type := 3, pos := "top03.go:45", after := #[{ on := 25, ground := Ground.data }, { on := 17, ground := Ground.guard }], guard := some (17, false) }) (v := ?_) (by kernel_rfl) rfl (by rfl) (by kernel_rfl) (by kernel_rfl) (fun _ _ _ h => h) ?_ (by assumption) ?_
                  rotate_left
                  · (intro w hSw; (try dsimp only at hSw); go_simp; try with_reducible rfl)
                  try simp only [Act.put, List.setIfInBounds_toArray, List.set_cons_zero, List.set_cons_succ]
                  refine held_take 27 (oi := { dst := some 143, op := Op.convert 3 5 (Operand.tmp 142), type := 5, pos := "top03.go:45", after := #[{ on := 26, ground := Ground.data }, { on := 17, ground := Ground.guard }], guard := some (17, false) }) (v := ?_) (by kernel_rfl) rfl (by rfl) (by kernel_rfl) (by kernel_rfl) (fun _ _ _ h => h) ?_ (by assumption) ?_
                  rotate_left
                  · (intro w hSw; (try dsimp only at hSw); go_simp; try with_reducible rfl)
                  try simp only [Act.put, List.setIfInBounds_toArray, List.set_cons_zero, List.set_cons_succ]
                  refine held_take 28 (oi := { dst := some 144, op := Op.binOp BinOp.neq 5 (Operand.tmp 140) (Operand.tmp 143) 5, type := 4, pos := "top03.go:45", after := #[{ on := 24, ground := Ground.data }, { on := 27, ground := Ground.data }, { on := 17, ground := Ground.guard }], guard := some (17, false) }) (v := ?_) (by kernel_rfl) rfl (by rfl) (by kernel_rfl) (by kernel_rfl) (fun _ _ _ h => h) ?_ (by assumption) ?_
                  rotate_left
                  · (intro w hSw; (try dsimp only at hSw); go_simp; try with_reducible rfl)
                  try simp only [Act.put, List.setIfInBounds_toArray, List.set_cons_zero, List.set_cons_succ]
                  refine held_take 29 (oi := { dst := some 145, op := Op.pick (Operand.tmp 133) (Operand.const (Value.bool true)) (Operand.tmp 144), type := 4, pos := "top03.go:45", after := #[{ on := 17, ground := Ground.data }, { on := 28, ground := Ground.data }], guard := none }) (v := ?_) (by kernel_rfl) rfl (by rfl) (by kernel_rfl) (by kernel_rfl) (fun _ _ _ h => h) ?_ (by assumption) ?_
                  rotate_left
                  · (intro w hSw; (try dsimp only at hSw); go_simp; try with_reducible rfl)
                  try simp only [Act.put, List.setIfInBounds_toArray, List.set_cons_zero, List.set_cons_succ]
                  refine held_take 30 (oi := { dst := some 146, op := Op.move (Operand.tmp 145), type := 4, pos := "top03.go:45", after := #[{ on := 29, ground := Ground.data }, { on := 17, ground := Ground.chain }], guard := none }) (v := ?_) (by kernel_rfl) rfl (by rfl) (by kernel_rfl) (by kernel_rfl) (fun _ _ _ h => h) ?_ (by assumption) ?_
                  rotate_left
                  · (intro w hSw; (try dsimp only at hSw); go_simp; try with_reducible rfl)
                  try simp only [Act.put, List.setIfInBounds_toArray, List.set_cons_zero, List.set_cons_succ]
                  refine held_take 31 (oi := { dst := some 147, op := Op.move (Operand.tmp 15), type := 3, pos := "top03.go:45", after := #[{ on := 30, ground := Ground.guard }], guard := some (30, false) }) (v := ?_) (by kernel_rfl) rfl (by rfl) (by kernel_rfl) (by kernel_rfl) (fun _ _ _ h => h) ?_ (by assumption) ?_
                  rotate_left
                  · (intro w hSw; (try dsimp only at hSw); go_simp; try with_reducible rfl)
                  try simp only [Act.put, List.setIfInBounds_toArray, List.set_cons_zero, List.set_cons_succ]
                  refine held_take 32 (oi := { dst := some 148, op := Op.binOp BinOp.gtr 3 (Operand.tmp 147) (Operand.const (Value.int IntKind.i64 0)) 3, type := 4, pos := "top03.go:45", after := #[{ on := 31, ground := Ground.data }, { on := 30, ground := Ground.guard }], guard := some (30, false) }) (v := ?_) (by kernel_rfl) rfl (by rfl) (by kernel_rfl) (by kernel_rfl) (fun _ _ _ h => h) ?_ (by assumption) ?_
                  rotate_left
                  · (intro w hSw; (try dsimp only at hSw); go_simp; try with_reducible rfl)
                  try simp only [Act.put, List.setIfInBounds_toArray, List.set_cons_zero, List.set_cons_succ]
                  refine held_take 33 (oi := { dst := some 149, op := Op.move (Operand.tmp 148), type := 4, pos := "top03.go:45", after := #[{ on := 32, ground := Ground.data }, { on := 30, ground := Ground.chain }, { on := 30, ground := Ground.guard }], guard := some (30, false) }) (v := ?_) (by kernel_rfl) rfl (by rfl) (by kernel_rfl) (by kernel_rfl) (fun _ _ _ h => h) ?_ (by assumption) ?_
                  rotate_left
                  · (intro w hSw; (try dsimp only at hSw); go_simp; try with_reducible rfl)
                  try simp only [Act.put, List.setIfInBounds_toArray, List.set_cons_zero, List.set_cons_succ]
                  refine held_take 34 (oi := { dst := some 150, op := Op.move (Operand.tmp 14), type := 27, pos := "top03.go:45", after := #[{ on := 33, ground := Ground.guard }], guard := some (33, true) }) (v := ?_) (by kernel_rfl) rfl (by rfl) (by kernel_rfl) (by kernel_rfl) (fun _ _ _ h => h) ?_ (by assumption) ?_
                  rotate_left
                  · (intro w hSw; (try dsimp only at hSw); go_simp; try with_reducible rfl)
                  try simp only [Act.put, List.setIfInBounds_toArray, List.set_cons_zero, List.set_cons_succ]
                  refine held_take 35 (oi := { dst := some 151, op := Op.move (Operand.tmp 15), type := 3, pos := "top03.go:45", after := #[{ on := 33, ground := Ground.guard }], guard := some (33, true) }) (v := ?_) (by kernel_rfl) rfl (by rfl) (by kernel_rfl) (by kernel_rfl) (fun _ _ _ h => h) ?_ (by assumption) ?_
                  rotate_left
                  · (intro w hSw; (try dsimp only at hSw); go_simp; try with_reducible rfl)
                  try simp only [Act.put, List.setIfInBounds_toArray, List.set_cons_zero, List.set_cons_succ]
                  refine held_take 36 (oi := { dst := some 152, op := Op.indexAddr 27 (Operand.tmp 150) (Operand.tmp 151), type := 0, pos := "top03.go:45", after := #[{ on := 34, ground := Ground.data }, { on := 35, ground := Ground.data }, { on := 33, ground := Ground.guard }], guard := some (33, true) }) (v := ?_) (by kernel_rfl) rfl (by rfl) (by kernel_rfl) (by kernel_rfl) (fun _ _ _ h => h) ?_ (by assumption) ?_
                  rotate_left
                  · (intro w hSw; (try dsimp only at hSw); go_simp; try with_reducible rfl)
                  try simp only [Act.put, List.setIfInBounds_toArray, List.set_cons_zero, List.set_cons_succ]
                  refine held_take 37 (oi := { dst := some 153, op := Op.fieldAddr 60 (Operand.tmp 152) 1, type := 0, pos := "top03.go:45", after := #[{ on := 36, ground := Ground.data }, { on := 33, ground := Ground.guard }], guard := some (33, true) }) (v := ?_) (by kernel_rfl) rfl (by rfl) (by kernel_rfl) (by kernel_rfl) (fun _ _ _ h => h) ?_ (by assumption) ?_
                  rotate_left
                  · (intro w hSw; (try dsimp only at hSw); go_simp; try with_reducible rfl)
                  try simp only [Act.put, List.setIfInBounds_toArray, List.set_cons_zero, List.set_cons_succ]
                  refine held_take 38 (oi := { dst := some 154, op := Op.load 3 (Operand.tmp 153), type := 3, pos := "top03.go:45", after := #[{ on := 37, ground := Ground.data }, { on := 33, ground := Ground.guard }], guard := some (33, true) }) (v := ?_) (by kernel_rfl) rfl (by rfl) (by kernel_rfl) (by kernel_rfl) (fun _ _ _ h => h) ?_ (by assumption) ?_
                  rotate_left
                  · (intro w hSw; (try dsimp only at hSw); go_simp; try with_reducible rfl)
                  try simp only [Act.put, List.setIfInBounds_toArray, List.set_cons_zero, List.set_cons_succ]
                  refine held_take 39 (oi := { dst := some 155, op := Op.move (Operand.tmp 14), type := 27, pos := "top03.go:45", after := #[{ on := 33, ground := Ground.guard }], guard := some (33, true) }) (v := ?_) (by kernel_rfl) rfl (by rfl) (by kernel_rfl) (by kernel_rfl) (fun _ _ _ h => h) ?_ (by assumption) ?_
                  rotate_left
                  · (intro w hSw; (try dsimp only at hSw); go_simp; try with_reducible rfl)
                  try simp only [Act.put, List.setIfInBounds_toArray, List.set_cons_zero, List.set_cons_succ]
                  refine held_take 40 (oi := { dst := some 156, op := Op.move (Operand.tmp 15), type := 3, pos := "top03.go:45", after := #[{ on := 33, ground := Ground.guard }], guard := some (33, true) }) (v := ?_) (by kernel_rfl) rfl (by rfl) (by kernel_rfl) (by kernel_rfl) (fun _ _ _ h => h) ?_ (by assumption) ?_
                  rotate_left
                  · (intro w hSw; (try dsimp only at hSw); go_simp; try with_reducible rfl)
                  try simp only [Act.put, List.setIfInBounds_toArray, List.set_cons_zero, List.set_cons_succ]
                  refine held_take 41 (oi := { dst := some 157, op := Op.binOp BinOp.sub 3 (Operand.tmp 156) (Operand.const (Value.int IntKind.i64 1)) 3, type := 3, pos := "top03.go:45", after := #[{ on := 40, ground := Ground.data }, { on := 33, ground := Ground.guard }], guard := some (33, true) }) (v := ?_) (by kernel_rfl) rfl (by rfl) (by kernel_rfl) (by kernel_rfl) (fun _ _ _ h => h) ?_ (by assumption) ?_
                  rotate_left
                  · (intro w hSw; (try dsimp only at hSw); go_simp; try with_reducible rfl)
                  try simp only [Act.put, List.setIfInBounds_toArray, List.set_cons_zero, List.set_cons_succ]
                  refine held_take 42 (oi := { dst := some 158, op := Op.indexAddr 27 (Operand.tmp 155) (Operand.tmp 157), type := 0, pos := "top03.go:45", after := #[{ on := 39, ground := Ground.data }, { on := 41, ground := Ground.data }, { on := 33, ground := Ground.guard }], guard := some (33, true) }) (v := ?_) (by kernel_rfl) rfl (by rfl) (by kernel_rfl) (by kernel_rfl) (fun _ _ _ h => h) ?_ (by assumption) ?_
                  rotate_left
                  · (intro w hSw; (try dsimp only at hSw); go_simp; try with_reducible rfl)
                  try simp only [Act.put, List.setIfInBounds_toArray, List.set_cons_zero, List.set_cons_succ]
                  refine held_take 43 (oi := { dst := some 159, op := Op.fieldAddr 60 (Operand.tmp 158) 1, type := 0, pos := "top03.go:45", after := #[{ on := 42, ground := Ground.data }, { on := 33, ground := Ground.guard }], guard := some (33, true) }) (v := ?_) (by kernel_rfl) rfl (by rfl) (by kernel_rfl) (by kernel_rfl) (fun _ _ _ h => h) ?_ (by assumption) ?_
                  rotate_left
                  · (intro w hSw; (try dsimp only at hSw); go_simp; try with_reducible rfl)
                  try simp only [Act.put, List.setIfInBounds_toArray, List.set_cons_zero, List.set_cons_succ]
                  refine held_take 44 (oi := { dst := some 160, op := Op.load 3 (Operand.tmp 159), type := 3, pos := "top03.go:45", after := #[{ on := 43, ground := Ground.data }, { on := 33, ground := Ground.guard }], guard := some (33, true) }) (v := ?_) (by kernel_rfl) rfl (by rfl) (by kernel_rfl) (by kernel_rfl) (fun _ _ _ h => h) ?_ (by assumption) ?_
                  rotate_left
                  · (intro w hSw; (try dsimp only at hSw); go_simp; try with_reducible rfl)
                  try simp only [Act.put, List.setIfInBounds_toArray, List.set_cons_zero, List.set_cons_succ]
                  refine held_take 45 (oi := { dst := some 161, op := Op.binOp BinOp.lss 3 (Operand.tmp 154) (Operand.tmp 160) 3, type := 4, pos := "top03.go:45", after := #[{ on := 38, ground := Ground.data }, { on := 44, ground := Ground.data }, { on := 33, ground := Ground.guard }], guard := some (33, true) }) (v := ?_) (by kernel_rfl) rfl (by rfl) (by kernel_rfl) (by kernel_rfl) (fun _ _ _ h => h) ?_ (by assumption) ?_
                  rotate_left
                  · (intro w hSw; (try dsimp only at hSw); go_simp; try with_reducible rfl)
                  try simp only [Act.put, List.setIfInBounds_toArray, List.set_cons_zero, List.set_cons_succ]
                  refine held_take 46 (oi := { dst := some 162, op := Op.pick (Operand.tmp 149) (Operand.tmp 161) (Operand.const (Value.bool false)), type := 4, pos := "top03.go:45", after := #[{ on := 33, ground := Ground.data }, { on := 45, ground := Ground.data }, { on := 30, ground := Ground.guard }], guard := some (30, false) }) (v := ?_) (by kernel_rfl) rfl (by rfl) (by kernel_rfl) (by kernel_rfl) (fun _ _ _ h => h) ?_ (by assumption) ?_
                  rotate_left
                  · (intro w hSw; (try dsimp only at hSw); go_simp; try with_reducible rfl)
                  try simp only [Act.put, List.setIfInBounds_toArray, List.set_cons_zero, List.set_cons_succ]
                  refine held_take 47 (oi := { dst := some 163, op := Op.pick (Operand.tmp 146) (Operand.const (Value.bool true)) (Operand.tmp 162), type := 4, pos := "top03.go:45", after := #[{ on := 30, ground := Ground.data }, { on := 46, ground := Ground.data }], guard := none }) (v := ?_) (by kernel_rfl) rfl (by rfl) (by kernel_rfl) (by kernel_rfl) (fun _ _ _ h => h) ?_ (by assumption) ?_
                  rotate_left
                  · (intro w hSw; (try dsimp only at hSw); go_simp; try with_reducible rfl)
                  try simp only [Act.put, List.setIfInBounds_toArray, List.set_cons_zero, List.set_cons_succ]
                  refine wpAnyH_done (by kernel_rfl) ?_ _
                  go_wp2
                  exact ⟨⟨y + 1, by omega, by go_num, F1⟩, by simp [intOf]; omega⟩
              · have z1 : ¬ (y : Int) < (md : Int) := by omega
                obtain rfl : y = md := by omega
                have I9 := hide (unhide I8 wr ((unhide Bd).trans ((unhide F).mono (unhide Bd).size)))
                have HL9 := hide (show c8.es.length ≤ 22 * (i + 1) by rw [unhide HLA]; omega)
                have VL := hide (show (.int .i64 (y : Int) : Value) = .int .i64 ((c8.es.length : Nat) : Int) by rw [unhide HLA])
                go_wp2
                exact ⟨⟨i + 1, L8, c8, by omega, by omega, by go_num, rfl, rfl, unhide VL, HL9, I9⟩, by simp [intOf]; omega⟩
      · have y2 : ¬ (i : Int) < 30 := by omega
        obtain ⟨N, ss, r1, ep5, ec5, hs5, z5, lv5, N5, bb5⟩ := unhide I3
        have LC := hide (wlast_calls z5)
        rw [show (((c.bi + c.es.length : Nat)) : Int) = ((c.es.length : Nat) : Int) by rw [lv5.tr.b, Nat.zero_add]] at LC
        have B5 := hide bb5
        clear z5 lv5 bb5
        generalize c.es.length = la at *
        go_wp2_with fail
        go_at_call 39
        refine (unhide LC).mono ?_
        rintro e Va ⟨rfl, va⟩
        have Ba := hide ((unhide B5).trans (va.mono (unhide B5).size))
        clear va
        go_wp2
        go_ret
        exact ⟨rfl, unhide Ba⟩
    · have y1 : ¬ (i : Int) < (m0 : Int) := by omega
      obtain ⟨N, ss, r1, ep5, ec5, hs5, z5, lv5, N5, bb5⟩ := unhide I3
      have LC := hide (wlast_calls z5)
      rw [show (((c.bi + c.es.length : Nat)) : Int) = ((c.es.length : Nat) : Int) by rw [lv5.tr.b, Nat.zero_add]] at LC
      have B5 := hide bb5
      clear z5 lv5 bb5
      generalize c.es.length = la at *
      go_wp2_with fail
      go_at_call 39
      refine (unhide LC).mono ?_
      rintro e Va ⟨rfl, va⟩
      have Ba := hide ((unhide B5).trans (va.mono (unhide B5).size))
      clear va
      go_wp2
      go_ret
      exact ⟨rfl, unhide Ba⟩

set_option maxRecDepth 100000 in
theorem lifted (os : Os) (started : os.Started) (H : Type) (enc : TypeId × Value → H) :
    ReturnsInHanded {} Tryz.checked os 13 .any (fun w args => (Rows.topRecoversSpec.pre enc Tryz.prog Tryz.f13 Rows.topRecoversRow.domain false w args ∧ laidMetH Tryz.prog Rows.topRecoversRow.laid w) ∧ sizedMet enc Tryz.prog Tryz.f13 (OpenSpec.ofChange Rows.topRecoversSpec) false w args)
      (Rows.topRecoversSpec.post enc Tryz.prog Tryz.f13 false true false false) := by
  refine returnsInHanded_of_change_and (C := Tryz.checked) (X := fun w _ => laidMetH Tryz.prog Rows.topRecoversRow.laid w) (fun _ _ _ hh h => h.of_heap hh) own started (by kernel_rfl) Tryz.func13
    (ChangeSpec.witness_shaped (enc := enc) (C := Tryz.checked) (os := os) (X := fun w _ => laidMetH Tryz.prog Rows.topRecoversRow.laid w) false (World.laidAll Tryz.prog os Rows.topRecoversRow.laid) #[.slice none 0 0, .slice none 0 0] 8 (World.laidAll_os _ _ _)
      (World.shaped_of_ZipB (by kernel_rfl) (by kernel_rfl)) (by kernel_rfl) (by kernel_rfl) (by kernel_rfl)
      (by rw [MakeChecks.laidMetH_plain _ _ _ (by kernel_rfl)]; exact laidMet_laidAll _ (by kernel_rfl) (by kernel_rfl))) ?_
  intro W base args ds gs before hval0 hW hcnd hsz hL _
  have hTz : Tz W := tz_of (by rw [MakeChecks.laidMetH_plain _ _ _ (by kernel_rfl)] at hL; exact hL)
  have hval : ∀ (j : Nat) t v, Tryz.f13.params[j]? = some t → args[j]? = some v → Value.okWide Tryz.prog W .any base t v := hval0
  have hW' := hW
  obtain ⟨p, q, hA0, hV, rfl, hfz, hnd⟩ := hW
  have hA : DataW.TrodAll enc Tryz.prog W 0 (fun _ => true) true Tryz.f13.params.toList args.toList ds p := hA0
  rw [Tryz.params13] at hA hval
  obtain ⟨v0, vs0, d0, ds0, p0, q0, hargs, rfl, rfl, h0, r0⟩ := trodAll_cons hA
  obtain ⟨v1, vs1, d1, ds1, p1, q1, rfl, rfl, rfl, h1, r1⟩ := trodAll_cons r0
  obtain ⟨rfl, rfl, rfl⟩ := trodAll_nil r1
  obtain rfl : args = #[v0, v1] := by cases args; simp_all
  obtain ⟨rfl, rfl⟩ := trodVars_none hV
  obtain ⟨a0, len0, c0, rfl⟩ := okWide_slice Tryz.underlying84 (hval 0 84 v0 rfl rfl)
  have k0 := h0
  have lt0 : ∀ x ∈ p0, x.block < W.heap.size := by obtain ⟨m, hm⟩ := k0; exact DataW.trod_lt m _ _ _ hm
  obtain ⟨l0, rfl, hx0, hb0⟩ := ddeeds_arg h0
  obtain ⟨a1, len1, c1, rfl⟩ := okWide_slice Tryz.underlying32 (hval 1 32 v1 rfl rfl)
  have k1 := h1
  have lt1 : ∀ x ∈ p1, x.block < W.heap.size := by obtain ⟨m, hm⟩ := k1; exact DataW.trod_lt m _ _ _ hm
  obtain ⟨l1, rfl, hx1, hb1⟩ := row64 h1
  clear hA0 hval0
  refine (walk a0 c0 l0 a1 c1 l1 W hx0 hb0 hx1 hb1 hTz).mono fun e W' ⟨he, bel⟩ => ?_
  subst he
  exact ⟨_, rfl, _, _, _, [], _, [], hW', trodAll_mk1 (shut_bool Tryz.underlying4 _), (trodAll_cons_mk (Below.trod laidOut (by kernel_rfl) (of_decide_eq_true (by kernel_rfl)) k0 bel lt0) (trodAll_cons_mk (Below.trod laidOut (by kernel_rfl) (of_decide_eq_true (by kernel_rfl)) k1 bel lt1) trodAll_mk0)), rfl, bel.frame _, fun h => by cases h⟩

theorem proved : Rows.TopRecoversSaid :=
  OpenClaim.holds_of_wide 13 Tryz.f13 rfl rfl rfl rfl rfl rfl rfl ⟨rfl, rfl, rfl, rfl, rfl⟩ rfl rfl rfl rfl rfl (by kernel_rfl) Tryz.func13 (by kernel_rfl)
    (of_decide_eq_true (by kernel_rfl)) (by unfold Func.isWrapper; first | (rw [if_pos (by decide +kernel)]; kernel_rfl) | (rw [if_neg (by decide +kernel)]; exact ⟨rfl, rfl⟩))
    (fun os started H enc _ => lifted os started H enc)
theorem card : Rows.TopRecoversCardSaid :=
  Claim7.holds_tied_plain_at .later [] [.data, .data, .data, .sentinel, .sentinel] true (true, "88ca12b5e2985bf86c8c037a77f67510c0f31dea6bd67df2758923acb4652b36") true proved (fun _ h => by cases h) (by kernel_rfl) (fun _ h => by cases h) topRecovers_row_tie rfl ⟨rfl, rfl⟩ (by kernel_rfl) rfl
    (fun f fn hf hfn => by
      obtain rfl : f = 13 := Option.some.inj ((show Tryz.prog.funcNamed "tollgate/tollgatetop.TopRecovers" = some 13 by kernel_rfl).symm.trans hf) |>.symm
      obtain rfl : fn = Tryz.f13 := (Option.some.inj (Tryz.func13.symm.trans hfn)).symm
      exact ⟨by kernel_rfl, fun j t ht => by
        rw [Tryz.params13] at ht
        have hm : t ∈ [84, 32] := by simpa using Array.mem_of_getElem? ht
        have hall : ([84, 32].all fun u => !Tryz.prog.wantsStandIn u) = true := by kernel_rfl
        exact (show Tryz.prog.wantsStandIn t = false by simpa using List.all_eq_true.1 hall t hm)⟩)
    (by kernel_rfl)
end Go.Proofs.YtijcpmbfhfppmaaGreatDoor.topRecovers
namespace Go.Proofs.YtijcpmbfhfppmaaGreatDoor
theorem topRecovers_holds : Rows.TopRecoversCardSaid := topRecovers.card
#print axioms topRecovers_holds
end Go.Proofs.YtijcpmbfhfppmaaGreatDoor
