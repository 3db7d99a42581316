/- Proved: the version is how many commands were done, and what is refused changes nothing; for every commands (up to 150) without clients; no condition beyond the library's variable that is read (lz_of). -/
import Derived.Test.YtpkpnedcecjlbaaGreatDoorB36
import Derived.Test.YtpkpnedcecjlbaaGreatDoorB34
import Derived.Deep.RegionHeld3
import Derived.Test.YtpkpnedcecjlbaaGreatDoorTie
import Derived.Test.YtpkpnedcecjlbaaGreatDoorCards
import Derived.Lay
import Derived.MakeChecks
import Derived.SevenTiedAt
import Derived.Stop.Joined
namespace Go.Proofs.YtpkpnedcecjlbaaGreatDoor.confVersions
open Go.ChangeShapes Go.WideShapes Go.ChangeAt Go.RowKit
set_option linter.unusedVariables false

theorem own : ownKnob Tryz.prog.godebug = none := by kernel_rfl
theorem laidOut : laidOutB Tryz.prog = true := by kernel_rfl

theorem field0 (v : Int) (a b : Option Addr) (n m c d : Nat) (W : World) : (Instr.field 53 (.agg #[.int .i64 v, .slice a n c, .slice b m d]) 0).run Tryz.prog W = .ok (.int .i64 v) W := by kernel_rfl
set_option maxRecDepth 20000 in
set_option maxHeartbeats 16000000 in
theorem walk (a : Option Addr) (cc : Nat) (l : List CmdQ) (w : World) (hx : l.length ≤ maxLen) (hC : CmdsAt w a l) (hLz : Lz w) :
    Calls Tryz.prog 7 #[.slice a l.length cc] w fun e w' => e = .returned (.bool true) ∧ Below w.heap.size w w' := by
  have MX := hide (fun (W : World) (hb : Below w.heap.size w W) => Mx.later hLz hb)
  have HC := hide hC
  have NC := hide (new8_calls w)
  simp only [maxLen] at hx
  clear hC hLz
  go_enter Tryz.func7, Tryz.ntmps7
  go_wp2_with fail
  refine (unhide NC).mono ?_
  rintro e V1 ⟨h, rfl, s1, b1, hS, hP, hR, hCC⟩
  have NN := hide (show w.heap.size ≤ h.S ∧ w.heap.size ≤ h.P ∧ w.heap.size ≤ h.R ∧ w.heap.size ≤ h.C from ⟨hS, hP, hR, hCC⟩)
  have S1 := hide s1
  have B1 := hide b1
  clear s1 b1 hS hP hR hCC NC
  go_wp2_with fail
  go_loopw [4, 5, 6, 7, 8] (fun n i _ _ _ wr => ∃ (j : Nat) (x : Sm), j ≤ 150 ∧ i = .int .i64 (j : Int) ∧ n = .int .i64 x.ver ∧ Hid (StAt wr h x) ∧ Hid (Smi j x) ∧ Hid (Below w.heap.size w wr)) (fun _ i _ _ _ _ => 150 - (intOf i).toNat)
  case atStart => exact ⟨0, sm0, by omega, rfl, rfl, S1, hide smi0, B1⟩
  case round =>
    obtain ⟨j, x, hj, rfl, rfl, S, I, B⟩ := hrel
    by_cases hjl : j < l.length
    · by_cases hj1 : j < 150
      · as_aux_lemma =>
        have y1 : (j : Int) < (l.length : Int) := by omega
        have y2 : (j : Int) < 150 := by omega
        have y0 : (0 : Int) ≤ (j : Int) := by omega
        have hjj : j + 1 ≤ 150 := by omega
        obtain ⟨b, off, rfl, hcell⟩ := (unhide HC).cell j hjl
        have ca := hide (((unhide HC).at_ _ (List.getElem_mem hjl)).later (unhide B))
        generalize l[j] = q at *
        obtain ⟨⟨act, cli, seq, exp, host, pre, pool, ts⟩, ta, tc⟩ := q
        dsimp only at *
        have p0 : wr.cell? ⟨b, off + j * 8, none⟩ = some (.int .i64 act) := cell_later (unhide B) (hcell 0 (by omega))
        have p1 : wr.cell? ⟨b, off + j * 8 + 1, none⟩ = some (.int .i64 cli) := cell_later (unhide B) (hcell 1 (by omega))
        have p2 : wr.cell? ⟨b, off + j * 8 + 2, none⟩ = some (.int .i64 seq) := cell_later (unhide B) (hcell 2 (by omega))
        have p3 : wr.cell? ⟨b, off + j * 8 + 3, none⟩ = some (.int .i64 exp) := cell_later (unhide B) (hcell 3 (by omega))
        have p4 : wr.cell? ⟨b, off + j * 8 + 4, none⟩ = some (.string host) := cell_later (unhide B) (hcell 4 (by omega))
        have p5 : wr.cell? ⟨b, off + j * 8 + 5, none⟩ = some (.string pre) := cell_later (unhide B) (hcell 5 (by omega))
        have p6 : wr.cell? ⟨b, off + j * 8 + 6, none⟩ = some (.string pool) := cell_later (unhide B) (hcell 6 (by omega))
        have p7 : wr.cell? ⟨b, off + j * 8 + 7, none⟩ = some (.slice ta ts.length tc) := cell_later (unhide B) (hcell 7 (by omega))
        have hvr := (unhide I).vr
        have HT := hide (unhide ca).tgs
        have bE := hide (show Below wr.heap.size wr (wr.alloc (.cells #[.int .i64 act, .int .i64 cli, .int .i64 seq, .int .i64 exp, .string host, .string pre, .string pool, .slice ta ts.length tc] 25)) from (Below.refl _ _).alloc (Nat.le_refl _) _)
        have XE := hide (heap_new wr (.cells #[.int .i64 act, .int .i64 cli, .int .i64 seq, .int .i64 exp, .string host, .string pre, .string pool, .slice ta ts.length tc] 25))
        have C1 := hide (short8_calls ⟨act, cli, seq, exp, host, pre, pool, ts⟩ ta tc (wr.alloc (.cells #[.int .i64 act, .int .i64 cli, .int .i64 seq, .int .i64 exp, .string host, .string pre, .string pool, .slice ta ts.length tc] 25)) (unhide ca).tn.1 (unhide ca).th (unhide ca).tp (unhide ca).tl)
        have CA0 := hide (show CmdAt wr ⟨act, 0, 0, exp, host, pre, pool, ts⟩ ta tc from ⟨(unhide ca).tgs, (unhide ca).tz, (unhide ca).th, (unhide ca).tp, (unhide ca).tl, (unhide ca).tn, (unhide ca).tnil, (unhide ca).ia, by dsimp only; omega, by dsimp only; omega, (unhide ca).ie⟩)
        unfold cmdVal at C1
        dsimp only at C1
        have e0 := fcell0 (unhide XE) 0 (.int .i64 act) rfl
        have e1 := fcell0 (unhide XE) 1 (.int .i64 cli) rfl
        have e2 := fcell0 (unhide XE) 2 (.int .i64 seq) rfl
        have e3 := fcell0 (unhide XE) 3 (.int .i64 exp) rfl
        have e4 := fcell0 (unhide XE) 4 (.string host) rfl
        have e5 := fcell0 (unhide XE) 5 (.string pre) rfl
        have e6 := fcell0 (unhide XE) 6 (.string pool) rfl
        have e7 := fcell0 (unhide XE) 7 (.slice ta ts.length tc) rfl
        clear hcell
        by_cases hs : shortM ⟨act, cli, seq, exp, host, pre, pool, ts⟩ = true
        · rw [hs] at C1
          go_wp2_with fail
          generalize hE : wr.heap.size = E at *
          generalize (wr.alloc (.cells #[.int .i64 act, .int .i64 cli, .int .i64 seq, .int .i64 exp, .string host, .string pre, .string pool, .slice ta ts.length tc] 25)) = V at *
          refine (unhide C1).mono ?_
          rintro e V2 ⟨rfl, v2⟩
          have bE2 := hide (show Below E wr V2 from (unhide bE).trans (v2.mono (by have := (unhide bE).size; omega)))
          have XE2 := hide (later_block v2 (unhide XE))
          have f1 : V2.frozen? ⟨E, 1, none⟩ = false := by simp [World.frozen?, unhide XE2]
          have f2 : (V2.setCell ⟨E, 1, none⟩ (.int .i64 0)).frozen? ⟨E, 2, none⟩ = false := by simp [World.frozen?, set_at (unhide XE2) 1 (.int .i64 0) #[.int .i64 act, .int .i64 0, .int .i64 seq, .int .i64 exp, .string host, .string pre, .string pool, .slice ta ts.length tc] rfl]
          have g1 := fcell0 (unhide XE2) 1 (.int .i64 cli) rfl
          have g2 := fcell0 (unhide XE2) 2 (.int .i64 seq) rfl
          have g3 := fcell0 (set_at (unhide XE2) 1 (.int .i64 0) #[.int .i64 act, .int .i64 0, .int .i64 seq, .int .i64 exp, .string host, .string pre, .string pool, .slice ta ts.length tc] rfl) 2 (.int .i64 seq) rfl
          have XE3 := hide (set_at (set_at (unhide XE2) 1 (.int .i64 0) #[.int .i64 act, .int .i64 0, .int .i64 seq, .int .i64 exp, .string host, .string pre, .string pool, .slice ta ts.length tc] rfl) 2 (.int .i64 0) #[.int .i64 act, .int .i64 0, .int .i64 0, .int .i64 exp, .string host, .string pre, .string pool, .slice ta ts.length tc] rfl)
          have gg := hide (grown_trans (grown_set V2 E 1 (.int .i64 0)) (grown_set _ E 2 (.int .i64 0)))
          have bE3 := hide (below_grownK (unhide bE2) (unhide gg) (Nat.le_refl _) (by rw [← hE]; exact (unhide bE2).size))
          have S3 := hide ((unhide S).later (by rw [hE]; exact unhide bE3))
          have CF := hide (config_calls (unhide S3) ((unhide I).ok (by omega)))
          have B3 := hide ((unhide B).trans ((unhide bE3).mono (by rw [← hE]; exact (unhide B).size)))
          have CA3 := hide ((unhide CA0).later (by rw [hE]; exact unhide bE3))
          clear v2 C1 e0 e1 e2 e3 e4 e5 e6 e7 p0 p1 p2 p3 p4 p5 p6 p7 bE XE S gg XE2 bE2 CA0 ca HT
          go_wp2_with fail
          generalize (V2.setCell ⟨E, 1, none⟩ (.int .i64 0)).setCell ⟨E, 2, none⟩ (.int .i64 0) = V3 at *
          refine (unhide CF).mono ?_
          rintro e V4 ⟨⟨ra, rc, pa, pc⟩, rfl, cf, v4, _, _⟩
          rw [show cfVal x.cf ⟨ra, rc, pa, pc⟩ = .agg #[.int .i64 x.ver, .slice ra x.cf.rs.length rc, .slice pa x.cf.ps.length pc] from rfl]
          have WAS := hide cf
          have S4 := hide ((unhide S3).later v4)
          have B4 := hide ((unhide B3).trans (v4.mono (unhide B3).size))
          have XE4 := hide (later_block v4 (unhide XE3))
          have CA4 := hide ((unhide CA3).later v4)
          have bF := hide (show Below V4.heap.size V4 (V4.alloc (.cells #[.int .i64 x.ver, .slice ra x.cf.rs.length rc, .slice pa x.cf.ps.length pc] 53)) from (Below.refl _ _).alloc (Nat.le_refl _) _)
          have XF := hide (heap_new V4 (.cells #[.int .i64 x.ver, .slice ra x.cf.rs.length rc, .slice pa x.cf.ps.length pc] 53))
          have WAS5 := hide ((unhide WAS).later (unhide bF))
          have S5 := hide ((unhide S4).later (unhide bF))
          have B5 := hide ((unhide B4).trans ((unhide bF).mono (unhide B4).size))
          have XE5 := hide (later_block (unhide bF) (unhide XE4))
          have CA5 := hide ((unhide CA4).later (unhide bF))
          have DC := hide (do_calls (unhide S5) ((unhide I).ok (by omega)) (by have := (unhide I).vr; omega) ⟨act, 0, 0, exp, host, pre, pool, ts⟩ ta tc (unhide CA5) (unhide MX _ (unhide B5)))
          unfold cmdVal at DC
          dsimp only at DC
          have d0 := fcell0 (unhide XE5) 0 (.int .i64 act) rfl
          have d1 := fcell0 (unhide XE5) 1 (.int .i64 0) rfl
          have d2 := fcell0 (unhide XE5) 2 (.int .i64 0) rfl
          have d3 := fcell0 (unhide XE5) 3 (.int .i64 exp) rfl
          have d4 := fcell0 (unhide XE5) 4 (.string host) rfl
          have d5 := fcell0 (unhide XE5) 5 (.string pre) rfl
          have d6 := fcell0 (unhide XE5) 6 (.string pool) rfl
          have d7 := fcell0 (unhide XE5) 7 (.slice ta ts.length tc) rfl
          have LST := hide (show h.S < V4.heap.size ∧ h.P < V4.heap.size ∧ h.R < V4.heap.size ∧ h.C < V4.heap.size from (unhide S4).lts)
          clear cf v4 CF f1 f2 g1 g2 g3 S3 B3 XE3 CA3 WAS S4 B4 XE4 CA4 bE3
          go_wp2_with fail
          generalize hF : V4.heap.size = F at *
          generalize (V4.alloc (.cells #[.int .i64 x.ver, .slice ra x.cf.rs.length rc, .slice pa x.cf.ps.length pc] 53)) = V5 at *
          refine (unhide DC).mono ?_
          rintro e V6 ⟨a', tc', rfl, s6, cd⟩
          have L5 := (unhide S5).lts
          have HN := unhide NN
          have LF := (Array.getElem?_eq_some_iff.1 (unhide XF)).1
          have LE4 : F + 1 ≤ V5.heap.size := LF
          have DV := hide (doS_ver (c := ⟨act, 0, 0, exp, host, pre, pool, ts⟩) a' tc' x rfl)
          have I6 := hide ((unhide I).do ⟨act, 0, 0, exp, host, pre, pool, ts⟩ a' tc')
          have WAS6 := hide ((unhide WAS5).chg (unhide S5) cd)
          have S6 := hide s6
          have B6 := hide (Chg.toBelow (unhide B5) cd (unhide NN))
          have FNE := hide (show F ≠ h.S ∧ F ≠ h.P ∧ F ≠ h.R ∧ F ≠ h.C from by
            obtain ⟨q1, q2, q3, q4⟩ := (show h.S < F ∧ h.P < F ∧ h.R < F ∧ h.C < F from by
              have := unhide LST
              exact this)
            omega)
          have XF6 := hide ((cd.block F LF (unhide FNE).1 (unhide FNE).2.1 (unhide FNE).2.2.1 (unhide FNE).2.2.2).trans (unhide XF))
          clear s6 cd DC L5 HN LF LE4 d0 d1 d2 d3 d4 d5 d6 d7 S5 B5 XE5 CA5 WAS5 XF bF FNE
          generalize doS ⟨act, 0, 0, exp, host, pre, pool, ts⟩ a' tc' x = r at *
          obtain ⟨⟨er, vr⟩, x'⟩ := r
          dsimp only at *
          have bG := hide (show Below V6.heap.size V6 (V6.alloc (.cells #[.int .i64 er, .int .i64 vr] 56)) from (Below.refl _ _).alloc (Nat.le_refl _) _)
          have XG := hide (heap_new V6 (.cells #[.int .i64 er, .int .i64 vr] 56))
          have S7 := hide ((unhide S6).later (unhide bG))
          have B7 := hide ((unhide B6).trans ((unhide bG).mono (unhide B6).size))
          have WAS7 := hide ((unhide WAS6).later (unhide bG))
          have XF7 := hide (later_block (unhide bG) (unhide XF6))
          have k0 := fcell0 (unhide XG) 0 (.int .i64 er) rfl
          have k1 := fcell0 (unhide XG) 1 (.int .i64 vr) rfl
          rcases unhide DV with ⟨h1, h2, h3⟩ | ⟨h1, h2, h3⟩
          · subst h1
            subst h2
            have CF2 := hide (config_calls (unhide S7) ((unhide I6).ok (by omega)))
            have hwr : IntKind.i64.wrap (x.ver + 1) = x.ver + 1 := by rw [IntKind.wrap_i64]; omega
            have H3 := hide h3
            clear h3 DV WAS6 XF6 S6
            go_wp2_with fail
            refine (unhide CF2).mono ?_
            rintro e V8 ⟨⟨ra2, rc2, pa2, pc2⟩, rfl, _, v8, _, _⟩
            rw [show cfVal x'.cf ⟨ra2, rc2, pa2, pc2⟩ = .agg #[.int .i64 x'.ver, .slice ra2 x'.cf.rs.length rc2, .slice pa2 x'.cf.ps.length pc2] from rfl, unhide H3]
            have S8 := hide ((unhide S7).later v8)
            have B8 := hide ((unhide B7).trans (v8.mono (unhide B7).size))
            clear v8 CF2
            have fl := field0
            go_wp2
            exact ⟨⟨j + 1, x', hjj, by go_num, by rw [unhide H3], S8, I6, B8⟩, by simp [intOf]; omega⟩
          · subst h3
            subst h2
            have z1 : (er == 0) = false := by simp [h1]
            have CF2 := hide (fun (W : World) (hb : Below (V6.alloc (.cells #[.int .i64 er, .int .i64 x'.ver] 56)).heap.size (V6.alloc (.cells #[.int .i64 er, .int .i64 x'.ver] 56)) W) => config_calls ((unhide S7).later hb) ((unhide I6).ok (by omega)))
            have m0 := fcell0 (unhide XF7) 0 (.int .i64 x'.ver) rfl
            have m1 := fcell0 (unhide XF7) 1 (.slice ra x'.cf.rs.length rc) rfl
            have m2 := fcell0 (unhide XF7) 2 (.slice pa x'.cf.ps.length pc) rfl
            have KB := hide (show (V6.alloc (.cells #[.int .i64 er, .int .i64 x'.ver] 56)).drew.cell? ⟨F, 0, none⟩ = some (.int .i64 x'.ver) ∧ (V6.alloc (.cells #[.int .i64 er, .int .i64 x'.ver] 56)).drew.cell? ⟨F, 1, none⟩ = some (.slice ra x'.cf.rs.length rc) ∧ (V6.alloc (.cells #[.int .i64 er, .int .i64 x'.ver] 56)).drew.cell? ⟨F, 2, none⟩ = some (.slice pa x'.cf.ps.length pc) from ⟨m0, m1, m2⟩)
            clear DV WAS6 XF6 S6
            go_wp2_with fail
            generalize hG : V6.heap.size = G at *
            generalize (V6.alloc (.cells #[.int .i64 er, .int .i64 x'.ver] 56)) = V7 at *
            have bD := hide (show Below V7.heap.size V7 V7.drew from (Below.refl _ _).drew)
            refine wp_region_held_drew (S := fun w' => w'.cell? ⟨F, 0, none⟩ = some (.int .i64 x'.ver) ∧ w'.cell? ⟨F, 1, none⟩ = some (.slice ra x'.cf.rs.length rc) ∧ w'.cell? ⟨F, 2, none⟩ = some (.slice pa x'.cf.ps.length pc)) (by kernel_rfl) ?_ (fun hHeld => ?_)
            · try dsimp only
              first | exact unhide K3 | exact unhide K2 | exact unhide KB
            refine hT 0 ?_
            refine hT 2 ?_
            refine hO 1 (fun K hK => ?_)
            go_simp
            first
              | (go_at_call 21
                 refine (unhide CF2 _ (unhide bD)).mono ?_
                 rintro e U1 ⟨k2, rfl, cf2, u1, _, _⟩
                 have BU := hide ((unhide bD).trans (u1.mono (unhide bD).size))
                 have K2 := hide (show U1.cell? ⟨F, 0, none⟩ = some (.int .i64 x'.ver) ∧ U1.cell? ⟨F, 1, none⟩ = some (.slice ra x'.cf.rs.length rc) ∧ U1.cell? ⟨F, 2, none⟩ = some (.slice pa x'.cf.ps.length pc) from ⟨cell_later u1 (unhide KB).1, cell_later u1 (unhide KB).2.1, cell_later u1 (unhide KB).2.2⟩)
                 have CK2 := hide cf2
                 have SC := hide (fun (k : CfH) (hk : CfAt U1 x'.cf k) => sameC_calls hk ((unhide WAS7).later (unhide BU)))
                 clear cf2 u1)
              | (go_at_call 23
                 refine (unhide SC k2 (unhide CK2)).mono ?_
                 rintro e U2 ⟨rfl, u2⟩
                 have BU2 := hide ((unhide BU).trans (u2.mono (unhide BU).size))
                 have K3 := hide (show U2.cell? ⟨F, 0, none⟩ = some (.int .i64 x'.ver) ∧ U2.cell? ⟨F, 1, none⟩ = some (.slice ra x'.cf.rs.length rc) ∧ U2.cell? ⟨F, 2, none⟩ = some (.slice pa x'.cf.ps.length pc) from ⟨cell_later u2 (unhide K2).1, cell_later u2 (unhide K2).2.1, cell_later u2 (unhide K2).2.2⟩)
                 clear u2)
            go_wp2_with fail
            refine hK.out _ _ ?_ (fun hHeld => ?_)
            · try dsimp only
              first | exact unhide K3 | exact unhide K2 | exact unhide KB
            clear hK K
            refine hP ?_
            refine hO 3 (fun K hK => ?_)
            go_simp
            first
              | (go_at_call 21
                 refine (unhide CF2 _ (unhide bD)).mono ?_
                 rintro e U1 ⟨k2, rfl, cf2, u1, _, _⟩
                 have BU := hide ((unhide bD).trans (u1.mono (unhide bD).size))
                 have K2 := hide (show U1.cell? ⟨F, 0, none⟩ = some (.int .i64 x'.ver) ∧ U1.cell? ⟨F, 1, none⟩ = some (.slice ra x'.cf.rs.length rc) ∧ U1.cell? ⟨F, 2, none⟩ = some (.slice pa x'.cf.ps.length pc) from ⟨cell_later u1 (unhide KB).1, cell_later u1 (unhide KB).2.1, cell_later u1 (unhide KB).2.2⟩)
                 have CK2 := hide cf2
                 have SC := hide (fun (k : CfH) (hk : CfAt U1 x'.cf k) => sameC_calls hk ((unhide WAS7).later (unhide BU)))
                 clear cf2 u1)
              | (go_at_call 23
                 refine (unhide SC k2 (unhide CK2)).mono ?_
                 rintro e U2 ⟨rfl, u2⟩
                 have BU2 := hide ((unhide BU).trans (u2.mono (unhide BU).size))
                 have K3 := hide (show U2.cell? ⟨F, 0, none⟩ = some (.int .i64 x'.ver) ∧ U2.cell? ⟨F, 1, none⟩ = some (.slice ra x'.cf.rs.length rc) ∧ U2.cell? ⟨F, 2, none⟩ = some (.slice pa x'.cf.ps.length pc) from ⟨cell_later u2 (unhide K2).1, cell_later u2 (unhide K2).2.1, cell_later u2 (unhide K2).2.2⟩)
                 clear u2)
            go_wp2_with fail
            refine hK.out _ _ ?_ (fun hHeld => ?_)
            · try dsimp only
              first | exact unhide K3 | exact unhide K2 | exact unhide KB
            clear hK K
            refine hP ?_
            refine hT 4 ?_
            refine wpAnyH_done (by kernel_rfl) ?_ _
            have n1 := cell_later (unhide BU2) k1
            have CF3 := hide (unhide CF2 U2 (unhide BU2))
            go_wp2_with fail
            refine (unhide CF3).mono ?_
            rintro e V8 ⟨⟨ra2, rc2, pa2, pc2⟩, rfl, _, v8, _, _⟩
            rw [show cfVal x'.cf ⟨ra2, rc2, pa2, pc2⟩ = .agg #[.int .i64 x'.ver, .slice ra2 x'.cf.rs.length rc2, .slice pa2 x'.cf.ps.length pc2] from rfl]
            have S8 := hide (((unhide S7).later (unhide BU2)).later v8)
            have B8 := hide ((unhide B7).trans (((unhide BU2).trans (v8.mono (unhide BU2).size)).mono (unhide B7).size))
            clear v8 CF3 CF2
            have fl := field0
            go_wp2
            exact ⟨⟨j + 1, x', hjj, by go_num, rfl, S8, I6, B8⟩, by simp [intOf]; omega⟩
        · have hs0 : shortM ⟨act, cli, seq, exp, host, pre, pool, ts⟩ = false := by simpa using hs
          rw [hs0] at C1
          clear hs hs0
          go_wp2_with fail
          generalize (wr.alloc (.cells #[.int .i64 act, .int .i64 cli, .int .i64 seq, .int .i64 exp, .string host, .string pre, .string pool, .slice ta ts.length tc] 25)) = V at *
          refine (unhide C1).mono ?_
          rintro e V2 ⟨rfl, v2⟩
          have b2 := hide ((unhide bE).trans (v2.mono (unhide bE).size))
          have S2 := hide ((unhide S).later (unhide b2))
          have B2 := hide ((unhide B).trans ((unhide b2).mono (unhide B).size))
          have I2 := hide ((unhide I).mono (Nat.le_succ j))
          clear v2 C1
          go_wp2
          exact ⟨⟨j + 1, x, hjj, by go_num, rfl, S2, I2, B2⟩, by simp [intOf]; omega⟩
      · as_aux_lemma =>
        have y1 : (j : Int) < (l.length : Int) := by omega
        have y2 : ¬ (j : Int) < 150 := by omega
        have LV := hide (live8_calls wr (unhide MX wr (unhide B)))
        go_wp2_with fail
        refine (unhide LV).mono ?_
        rintro e V ⟨rfl, v⟩
        have F := hide ((unhide B).trans (v.mono (unhide B).size))
        clear v LV
        go_wp2
        go_ret
        exact ⟨rfl, unhide F⟩
    · as_aux_lemma =>
      have y1 : ¬ (j : Int) < (l.length : Int) := by omega
      have LV := hide (live8_calls wr (unhide MX wr (unhide B)))
      go_wp2_with fail
      refine (unhide LV).mono ?_
      rintro e V ⟨rfl, v⟩
      have F := hide ((unhide B).trans (v.mono (unhide B).size))
      clear v LV
      go_wp2
      go_ret
      exact ⟨rfl, unhide F⟩

set_option maxRecDepth 100000 in
theorem lifted (os : Os) (started : os.Started) (H : Type) (enc : TypeId × Value → H) :
    ReturnsInHanded {} Tryz.checked os 7 .any (fun w args => (Rows.confVersionsSpec.pre enc Tryz.prog Tryz.f7 Rows.confVersionsRow.domain false w args ∧ laidMetH Tryz.prog Rows.confVersionsRow.laid w) ∧ sizedMet enc Tryz.prog Tryz.f7 (OpenSpec.ofChange Rows.confVersionsSpec) false w args)
      (Rows.confVersionsSpec.post enc Tryz.prog Tryz.f7 false true false false) := by
  refine handed_both (C := Tryz.checked) (X := fun w _ => laidMetH Tryz.prog Rows.confVersionsRow.laid w) (fun _ _ _ hh h => h.of_heap hh) own started (by kernel_rfl) Tryz.func7
    (ChangeSpec.witness_shaped (enc := enc) (C := Tryz.checked) (os := os) (X := fun w _ => laidMetH Tryz.prog Rows.confVersionsRow.laid w) false (World.laidAll Tryz.prog os Rows.confVersionsRow.laid) #[.slice none 0 0] 8 (World.laidAll_os _ _ _)
      (World.shaped_of_ZipB (by kernel_rfl) (by kernel_rfl)) (by kernel_rfl) (by kernel_rfl) (by kernel_rfl)
      (by rw [MakeChecks.laidMetH_plain _ _ _ (by kernel_rfl)]; exact laidMet_laidAll _ (by kernel_rfl) (by kernel_rfl))) ?_
  intro W base args ds gs before hval0 hW hcnd hsz hL hsh _
  have hLz : Lz W := lz_of (by rw [MakeChecks.laidMetH_plain _ _ _ (by kernel_rfl)] at hL; exact hL) hsh
  have hval : ∀ (j : Nat) t v, Tryz.f7.params[j]? = some t → args[j]? = some v → Value.okWide Tryz.prog W .any base t v := hval0
  have hW' := hW
  obtain ⟨p, q, hA0, hV, rfl, hfz, hnd⟩ := hW
  have hA : DataW.TrodAll enc Tryz.prog W 0 (fun _ => true) true Tryz.f7.params.toList args.toList ds p := hA0
  rw [Tryz.params7] at hA hval
  obtain ⟨v0, vs0, d0, ds0, p0, q0, hargs, rfl, rfl, h0, r0⟩ := trodAll_cons hA
  obtain ⟨rfl, rfl, rfl⟩ := trodAll_nil r0
  obtain rfl : args = #[v0] := by cases args; simp_all
  obtain ⟨rfl, rfl⟩ := trodVars_none hV
  obtain ⟨a0, len0, c0, rfl⟩ := okWide_slice Tryz.underlying47 (hval 0 47 v0 rfl rfl)
  have k0 := h0
  have lt0 : ∀ x ∈ p0, x.block < W.heap.size := by obtain ⟨m, hm⟩ := k0; exact DataW.trod_lt m _ _ _ hm
  obtain ⟨l0, rfl, hx0, hb0⟩ := cmds_arg h0 (fun n hn => of_decide_eq_true (List.all_eq_true.1 hsz n (DataW.weights_mem_each (j := 0) (d := d0) rfl rfl n hn)))
  clear hA0 hval0
  refine (walk a0 c0 l0 W hx0 hb0 hLz).mono fun e W' ⟨he, bel⟩ => ?_
  subst he
  exact ⟨_, rfl, _, _, _, [], _, [], hW', trodAll_mk1 (shut_bool Tryz.underlying4 _), (trodAll_cons_mk (Below.trod laidOut (by kernel_rfl) (of_decide_eq_true (by kernel_rfl)) k0 bel lt0) trodAll_mk0), rfl, bel.frame _, fun h => by cases h⟩

theorem proved : Rows.ConfVersionsSaid :=
  OpenClaim.holds_of_wide 7 Tryz.f7 rfl rfl rfl rfl rfl rfl rfl ⟨rfl, rfl, rfl, rfl, rfl⟩ rfl rfl rfl rfl rfl (by kernel_rfl) Tryz.func7 (by kernel_rfl)
    (of_decide_eq_true (by kernel_rfl)) (by unfold Func.isWrapper; first | (rw [if_pos (by decide +kernel)]; kernel_rfl) | (rw [if_neg (by decide +kernel)]; exact ⟨rfl, rfl⟩))
    (fun os started H enc _ => lifted os started H enc)
theorem card : Rows.ConfVersionsCardSaid :=
  Claim7.holds_tied_plain_at .later [] [.data, .pinned] true (true, "b7fa9f903173f51ff5646f2ce31a9d2e1f2bb21ed41642c1f1054eddabb198cc") true proved (fun _ h => by cases h) (by kernel_rfl) (fun _ h => by cases h) confVersions_row_tie rfl ⟨rfl, rfl⟩ (by kernel_rfl) rfl
    (fun f fn hf hfn => by
      obtain rfl : f = 7 := Option.some.inj ((show Tryz.prog.funcNamed "tollgate/tollgatelaw08.ConfVersions" = some 7 by kernel_rfl).symm.trans hf) |>.symm
      obtain rfl : fn = Tryz.f7 := (Option.some.inj (Tryz.func7.symm.trans hfn)).symm
      exact ⟨by kernel_rfl, fun j t ht => by
        rw [Tryz.params7] at ht
        have hm : t ∈ [47] := by simpa using Array.mem_of_getElem? ht
        have hall : ([47].all fun u => !Tryz.prog.wantsStandIn u) = true := by kernel_rfl
        exact (show Tryz.prog.wantsStandIn t = false by simpa using List.all_eq_true.1 hall t hm)⟩)
    (by kernel_rfl)
end Go.Proofs.YtpkpnedcecjlbaaGreatDoor.confVersions
namespace Go.Proofs.YtpkpnedcecjlbaaGreatDoor
theorem confVersions_holds : Rows.ConfVersionsCardSaid := confVersions.card
#print axioms confVersions_holds
end Go.Proofs.YtpkpnedcecjlbaaGreatDoor
