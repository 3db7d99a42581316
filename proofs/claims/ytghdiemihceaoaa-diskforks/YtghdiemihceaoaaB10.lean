/- The document's disk: Write, all of it. -/
import Derived.Test.YtghdiemihceaoaaB09
import Derived.Test.YtghdiemihceaoaaB08
import Derived.Test.YtghdiemihceaoaaB06
import Derived.Deep.Slices
import Derived.Lib.SmallJoins
section
namespace Go.Proofs.Ytghdiemihceaoaa
open Go.ChangeShapes Go.WideShapes Go.ChangeAt Go.RowKit Go.Maps
section
variable {base R room : Nat} {w w' : World} {sp : Option Addr} {c : Nat} {rs rs' : List Rf}
set_option maxRecDepth 20000 in
set_option maxHeartbeats 40000000 in
theorem rwrite_calls (h : RefAt base w R room sp c rs) (hbs : base ≤ w.heap.size) (s : ByteArray) (hs : s.size ≤ maxLen) (z : Int) (hz64 : z ≤ 9223372036854775807) (xp : Option Addr) (xn xc : Nat) (o : List Nat) (ho : o.length = xn) (hB : BytesAt w xp o) (hxl : xn ≤ 4000) (hcs : ∀ x ∈ rs, x.2.s.cs.length ≤ 300) :
    Calls Try.prog 35 #[.pointer (some ⟨R, 0, none⟩), .string s, .int .i64 z, .slice xp xn xc] w (REnd base R room w sp rs (dWrite room s.data.toList z o (rss rs))) := by
  cases hnl : nameL s.data.toList with
  | true =>
    by_cases hm : s.data.toList ∈ rs.map (·.1)
    · obtain ⟨x, hx, e⟩ := List.mem_map.1 hm
      obtain ⟨i, hi, e2⟩ := List.mem_iff_getElem.1 hx
      exact rwrite_old h hbs s hs hnl i hi (by rw [e2]; exact e) z hz64 xp xn xc o ho hB hxl hcs
    · exact rwrite_new h hbs s hs hnl hm z hz64 xp xn xc o ho hB hxl
  | false =>
    have NB := hide (fun (W : World) => named_calls s W hs)
    rw [hnl] at NB
    have E14 := hide (show ∀ W, Below w.heap.size w W → REnd base R room w sp rs (dWrite room s.data.toList z o (rss rs)) (.returned (.int .i64 14)) W from fun W hb => REnd.stay h hb (by simp [dWrite, hnl]) (by simp [dWrite, hnl]))
    clear h hbs hB hcs hnl
    go_enter Try.func35, Try.ntmps35
    go_wp2_with (go_at_call 30; refine (unhide NB _).mono ?_; rintro e w' ⟨rfl, rfl⟩)
    go_ret
    exact unhide E14 _ (Below.refl _ _)
end
end Go.Proofs.Ytghdiemihceaoaa
end
/- The document's disk: Crash. -/
section
namespace Go.Proofs.Ytghdiemihceaoaa
open Go.ChangeShapes Go.WideShapes Go.ChangeAt Go.RowKit Go.Maps

theorem crash_gone {s : Sp} (h : SOk s) (U : Nat) : (s.la = false ∧ (crashL s.cs s.y U).2 = U) ↔ (s.la = false ∧ (U = 0 ∨ s.us.length = 0)) := by
  constructor
  · rintro ⟨h1, h2⟩
    refine ⟨h1, ?_⟩
    by_cases hU : U = 0
    · exact .inl hU
    · refine .inr ?_
      cases hc : s.cs with
      | nil => simp [Sp.us, usL, hc]
      | cons c cs =>
        exfalso
        rw [hc] at h2
        have hsc := h.small c (by rw [hc]; exact List.mem_cons_self)
        have hpos : 0 < unitsC c := by
          unfold unitsC
          cases hb : c.1 with
          | true => simp
          | false => simp only [Bool.false_eq_true, if_false]; exact (hsc.1 hb).2
        have key : ∀ (l : List Chg) (y : List Nat) (n : Nat), (crashL l y n).2 ≤ n := by
          intro l
          induction l with
          | nil => intro y n; simp [crashL]
          | cons d ds ih =>
            intro y n
            unfold crashL
            split
            · omega
            · have := ih (ontoC d y (min n (unitsC d))) (n - min n (unitsC d))
              omega
        unfold crashL at h2
        rw [if_neg hU] at h2
        have := key cs (ontoC c s.y (min U (unitsC c))) (U - min U (unitsC c))
        omega
  · rintro ⟨h1, h2 | h2⟩
    · refine ⟨h1, ?_⟩
      rw [h2, crashL_zero]
    · refine ⟨h1, ?_⟩
      have := crashL_all s.cs s.y h.small U (by show s.us.length ≤ U; omega)
      rw [this]
      show U - s.us.length = U
      omega
theorem SOk.crashed {s : Sp} (h : SOk s) (U : Nat) : SOk ⟨true, (crashL s.cs s.y U).1, []⟩ := ⟨trivial, by simp, by rw [← h.made]; exact h.len _, by rw [← h.made]; exact h.lt _, by simp⟩
theorem crashS_app (ks : List Int) : ∀ (p r : Ds) (i : Nat), crashS ks i (p ++ r) = crashS ks i p ++ crashS ks (i + p.length) r
  | [], r, i => by simp [crashS]
  | x :: p, r, i => by
    simp only [List.cons_append, crashS, List.length_cons]
    rw [crashS_app ks p r (i + 1), List.append_assoc, show i + 1 + p.length = i + (p.length + 1) by omega]
theorem crashS_rise (ks : List Int) : ∀ (l : Ds) (i : Nat), Rises l → Rises (crashS ks i l) ∧ (∀ y ∈ crashS ks i l, ∃ x ∈ l, x.1 = y.1) ∧ (crashS ks i l).length ≤ l.length
  | [], _, _ => ⟨List.Pairwise.nil, by simp [crashS], by simp [crashS]⟩
  | x :: l, i, h => by
    have h1 := List.pairwise_cons.1 h
    obtain ⟨a, b, c⟩ := crashS_rise ks l (i + 1) h1.2
    unfold crashS crashOne
    split
    · exact ⟨a, fun y hy => by obtain ⟨z, hz, e⟩ := b y hy; exact ⟨z, List.mem_cons_of_mem _ hz, e⟩, by simp at c ⊢; omega⟩
    · refine ⟨List.pairwise_cons.2 ⟨fun y hy => by obtain ⟨z, hz, e⟩ := b y hy; rw [← e]; exact h1.1 z hz, a⟩, fun y hy => ?_, by simp at c ⊢; omega⟩
      rcases List.mem_cons.1 hy with rfl | hy
      · exact ⟨x, List.mem_cons_self, rfl⟩
      · obtain ⟨z, hz, e⟩ := b y hy
        exact ⟨z, List.mem_cons_of_mem _ hz, e⟩
section
variable {base R room : Nat} {w w' : World} {sp : Option Addr} {c : Nat} {rs rs' : List Rf}
set_option maxRecDepth 20000 in
set_option maxHeartbeats 40000000 in
theorem rcrash_calls (h : RefAt base w R room sp c rs) (hbs : base ≤ w.heap.size) (kp : Option Addr) (kn kc : Nat) (ks : List Int) (hks : ks.length = kn) (hI : IntsAt w kp ks) :
    Calls Try.prog 33 #[.pointer (some ⟨R, 0, none⟩), .slice kp kn kc] w fun e w' => e = .returned (.tuple #[]) ∧ ∃ rs', rss rs' = crashS ks 0 (rss rs) ∧ RDone base R room w sp rs rs' w' := by
  have B0 := hide (show Below w.heap.size w (w.alloc (.cells #[] 80)) from (Below.refl _ _).alloc (Nat.le_refl _) _)
  have O0 := hide (show OwnR base (w.alloc (.cells #[] 80)) (some ⟨w.heap.size, 0, none⟩) 0 [] from ⟨own_mono (OwnR.empty w w.heap.size (Nat.le_refl _)).row hbs, by simp⟩)
  have VC := hide (fun W (hb : Below w.heap.size w W) => h.later hb)
  have RC := hide (fun W (hb : Below w.heap.size w W) => show W.cell? ⟨R, 1, none⟩ = some (.slice sp rs.length c) ∧ W.frozen? ⟨R, 1, none⟩ = false from ⟨(unhide VC W hb).c1, (unhide VC W hb).z1⟩)
  have KI := hide (fun W (hb : Below w.heap.size w W) => hI.later hb)
  have H := hide h
  have HS := hide hbs
  have HK := hide hks
  have h16 := h.few
  have EN := hide (show ∀ W op m oc out, Below w.heap.size w W → OwnR base W op oc out → out.length = m → (∀ g, footR op out g → w.heap.size ≤ g) → rss out = crashS ks 0 (rss rs) → ∃ rs', rss rs' = crashS ks 0 (rss rs) ∧ RDone base R room w sp rs rs' (W.setCell ⟨R, 1, none⟩ (.slice op m oc)) from fun W op m oc out hb ho hm hg he => by
    obtain ⟨a1, a2, a3⟩ := crashS_rise ks (rss rs) 0 (h.rise.map (fun v : RV => v.s))
    have hr : Rises out := by
      have h5 : Rises (rss out) := by rw [he]; exact a1
      have h6 := List.pairwise_map.1 (show (out.map (fun x => (x.1, x.2.s))).Pairwise (fun x y => x.1 < y.1) from h5)
      exact h6
    have hl : out.length ≤ 16 := by
      have h1 : (rss out).length = out.length := by simp [rss]
      have h2 : (rss rs).length = rs.length := by simp [rss]
      rw [← he, h1, h2] at a3
      omega
    exact ⟨out, he, h.stored hb ho hm hr hl (fun g hgg => .inr (hg g hgg))⟩)
  clear h hbs hI hks
  obtain ⟨n, hn⟩ : ∃ n, rs.length = n := ⟨_, rfl⟩
  rw [hn] at RC h16
  have HN := hide hn
  clear hn
  obtain ⟨c1, _⟩ := unhide RC _ (unhide B0)
  go_enter Try.func33, Try.ntmps33
  go_wp2_with fail
  go_loopw [4, 5] (fun v4 v5 wr => ∃ (j m : Nat) (op : Option Addr) (oc : Nat) (out : List Rf), j ≤ n ∧ m ≤ j ∧ v4 = .slice op m oc ∧ v5 = .int .i64 (j : Int) ∧ Hid (out.length = m) ∧ Hid (OwnR base wr op oc out) ∧ Hid (∀ g, footR op out g → w.heap.size ≤ g) ∧ Hid (rss out = crashS ks 0 (rss (rs.take j))) ∧ Hid (Below w.heap.size w wr)) (fun _ v5 _ => n - (intOf v5).toNat)
  case atStart => exact ⟨0, 0, _, 0, [], by omega, by omega, rfl, rfl, rfl, O0, hide (fun g hg => by
    rcases hg with hg | ⟨x, hx, _⟩
    · simp [blk] at hg; omega
    · simp at hx), rfl, B0⟩
  case round =>
    obtain ⟨j, m, op, oc, out, hj, hmj, rfl, rfl, HM, HO, HG, HP, HB⟩ := hrel
    obtain ⟨d1, f1⟩ := unhide RC wr (unhide HB)
    by_cases hjn : j < n
    · have y1 : (j : Int) < (n : Int) := by omega
      have y0 : (0 : Int) ≤ (j : Int) := by omega
      have hjr : j < rs.length := by rw [unhide HN]; exact hjn
      obtain ⟨g, rfl, p0, p1, p2, p3⟩ := (unhide VC wr (unhide HB)).own.cells j hjr
      have DAT := hide (fun W (hb : Below w.heap.size w W) => (unhide VC W hb).own.dat _ (List.getElem_mem hjr))
      have TK := hide (show crashS ks 0 (rss (rs.take (j + 1))) = crashS ks 0 (rss (rs.take j)) ++ crashOne (unitsAt ks j) (rs[j].1, rs[j].2.s) by
        have e1 : rss (rs.take (j + 1)) = rss (rs.take j) ++ [(rs[j].1, rs[j].2.s)] := by
          rw [List.take_succ_eq_append_getElem hjr]; simp only [rss, List.map_append, List.map_cons, List.map_nil]
        have e2 : (rss (rs.take j)).length = j := by simp [rss]; omega
        rw [e1, crashS_app, e2, Nat.zero_add]
        simp [crashS])
      generalize rs[j] = x at *
      obtain ⟨nm, t, yp, yc, up, uc⟩ := x
      simp only at p0 p1 p2 p3 DAT TK
      have OK := hide (show SOk t from (unhide DAT wr (unhide HB)).ok)
      obtain ⟨U, hU⟩ : ∃ U, unitsAt ks j = U := ⟨_, rfl⟩
      rw [hU] at TK
      have A1 := hide (show Below wr.heap.size wr (wr.alloc (rfObj (nm, ⟨t, yp, yc, up, uc⟩))) from (Below.refl _ _).alloc (Nat.le_refl _) _)
      have X1 := heap_new wr (rfObj (nm, ⟨t, yp, yc, up, uc⟩))
      have x0 := fcell X1 0 _ rfl
      have x1 := fcell X1 1 _ rfl
      have x2 := fcell X1 2 _ rfl
      have x3 := fcell X1 3 _ rfl
      have B1 := hide ((unhide HB).trans ((unhide A1).mono (unhide HB).size))
      have O1 := hide ((unhide HO).later (unhide A1))
      have MC := hide (made_calls base (wr.alloc (rfObj (nm, ⟨t, yp, yc, up, uc⟩))).drew (nm, ⟨t, yp, yc, up, uc⟩) ((unhide DAT _ (unhide B1)).same (fun _ _ => rfl)) (U : Int))
      unfold rfVal at MC
      unfold rfObj at A1 B1 O1 MC X1
      have XX := hide X1
      rw [Int.toNat_natCast] at MC
      simp only at MC
      clear X1
      have kcase : ∃ kv : Int, (j < kn ∧ ∃ b off, kp = some ⟨b, off, none⟩ ∧ wr.cell? ⟨b, off + j, none⟩ = some (.int .i64 kv) ∧ (U : Int) = max kv 0) ∨ (¬ j < kn ∧ U = 0) := by
        by_cases hjk : j < kn
        · have hjk2 : j < ks.length := by rw [unhide HK]; exact hjk
          obtain ⟨b, off, e1, e2⟩ := (unhide KI wr (unhide HB)).cell j hjk2
          refine ⟨ks[j], .inl ⟨hjk, b, off, e1, e2, ?_⟩⟩
          rw [← hU]
          unfold unitsAt
          rw [List.getD_eq_getElem?_getD, List.getElem?_eq_getElem hjk2]
          simp only [Option.getD_some]
          omega
        · refine ⟨0, .inr ⟨hjk, ?_⟩⟩
          rw [← hU]
          unfold unitsAt
          rw [List.getD_eq_getElem?_getD, List.getElem?_eq_none (by rw [unhide HK]; omega)]
          rfl
      have HU := hide hU
      clear hU
      obtain ⟨la, hla⟩ : ∃ la, t.la = la := ⟨_, rfl⟩
      obtain ⟨q, hq⟩ : ∃ q, t.us.length = q := ⟨_, rfl⟩
      obtain ⟨Y, hY⟩ : ∃ Y, (crashL t.cs t.y U).1 = Y := ⟨_, rfl⟩
      rw [(unhide OK).made, hY] at MC
      have YOK := hide (show SOk ⟨true, Y, []⟩ from hY ▸ (unhide OK).crashed U)
      rw [hla] at x1 p1 A1 B1 O1 XX MC
      rw [hq] at x3 p3 A1 B1 O1 XX MC
      rw [hla, hq] at x0
      rw [hq] at x1
      rw [hla, hq] at x2
      rw [hla] at x3
      have HLA := hide hla
      have HQ := hide hq
      have HY := hide hY
      clear hla hq hY
      obtain ⟨kv, ⟨hjk, b, off, rfl, e2, hmax⟩ | ⟨hjk, rfl⟩⟩ := kcase
      · by_cases hk0 : 0 < kv
        · have hkU : kv = (U : Int) := by omega
          subst hkU
          have yk : (j : Int) < (kn : Int) := by omega
          have hU0 : ¬ U = 0 := by omega
          have yU : ((U : Int) == 0) = false := by simp; omega
          clear hmax
          cases la with
          | true =>
            have TK2 := hide (show crashS ks 0 (rss (rs.take (j + 1))) = crashS ks 0 (rss (rs.take j)) ++ [(nm, ⟨true, Y, []⟩)] by
              rw [unhide TK]
              unfold crashOne
              rw [if_neg (show ¬ (t.la = false ∧ (crashL t.cs t.y U).2 = U) from fun hh => (fun (e : t.la = false ∧ _) => by have := unhide HLA; rw [e.1] at this; cases this) ((crash_gone (unhide OK) U).1 hh))]
              show _ ++ [(nm, (⟨true, (crashL t.cs t.y U).1, []⟩ : Sp))] = _
              rw [unhide HY])
            clear TK
            go_wp2_with fail
            generalize wr.alloc (.cells #[.string (str nm), .bool true, .slice yp t.y.length yc, .slice up q uc] 80) = V7 at *
            have z0 := fcell (unhide XX) 0 _ rfl
            have z1 := fcell (unhide XX) 1 _ rfl
            have z2 := fcell (unhide XX) 2 _ rfl
            have z3 := fcell (unhide XX) 3 _ rfl
            go_region_law (first
              | (have hU' : W2 = W2 := rfl
                 clear hU'
                 refine step_appendR rfl (.tmp 55) (.tmp 62) rfl base op m oc out rfl (unhide HM) (by exact unhide Oa) W2.heap.size (nm, ⟨⟨true, Y, []⟩, sp2, c2, none, 0⟩) rfl (by exact unhide Xa) (by exact unhide Da) (by omega) (by exact unhide Sa) ?_
                 intro sp9 c9 W9 hO9 hG9
                 have O9 := hide hO9
                 have B9 := hide (show Below w.heap.size w W9 from (unhide Ba).grown hG9.grown (unhide Ba).size (fun g' hg' => unhide HG g' (.inl hg')))
                 have G9 := hide (show ∀ g, footR sp9 (out ++ [(nm, ⟨⟨true, Y, []⟩, sp2, c2, none, 0⟩)]) g → w.heap.size ≤ g from fun g hg => by
                   rcases hg with hg | ⟨z, hz, hg⟩
                   · rcases hG9.lies g hg with h1 | h1
                     · exact unhide HG g (.inl h1)
                     · exact Nat.le_trans (unhide Ba).size h1
                   · rcases List.mem_append.1 hz with hz | hz
                     · exact unhide HG g (.inr ⟨z, hz, hg⟩)
                     · have hz1 := List.mem_singleton.1 hz
                       subst hz1
                       rcases hg with hg | hg
                       · exact unhide La g hg
                       · cases hg)
                 clear hO9 hG9)
              | (go_simp
                 go_at_call 57
                 refine (unhide MC).mono ?_
                 rintro e W2 ⟨sp2, n2, c2, rfl, hn2, hX, b2⟩
                 have hW : n2 = Y.length := hn2.symm
                 subst hW
                 have bV := hide (show Below V7.heap.size V7 W2 from ⟨b2.os, b2.tape, b2.output, b2.size, b2.block⟩)
                 have bA := hide (show Below W2.heap.size W2 (W2.alloc (.cells #[.string (str nm), .bool true, .slice sp2 Y.length c2, .slice none 0 0] 80)) from (Below.refl _ _).alloc (Nat.le_refl _) _)
                 have bVA := hide ((unhide bV).trans ((unhide bA).mono (unhide bV).size))
                 have Ba := hide ((unhide B1).trans ((unhide bVA).mono (unhide B1).size))
                 have Oa := hide ((unhide O1).later (unhide bVA))
                 have Xa := hide (heap_new W2 (.cells #[.string (str nm), .bool true, .slice sp2 Y.length c2, .slice none 0 0] 80))
                 have Sa := hide (Nat.le_trans (unhide HS) (unhide Ba).size)
                 have La := hide (show ∀ g, blk sp2 = some g → w.heap.size ≤ g from fun g hg => Nat.le_trans (unhide B1).size (hX.isT g hg).1)
                 have Da := hide (show RfAt base (W2.alloc (.cells #[.string (str nm), .bool true, .slice sp2 Y.length c2, .slice none 0 0] 80)) (nm, ⟨⟨true, Y, []⟩, sp2, c2, none, 0⟩) from ⟨unhide YOK, (hX.mono (Nat.le_trans (unhide HS) (unhide B1).size)).later (unhide bA), World.ownsRow_nil _ base 90 3, by simp [Sp.us, usL]⟩)
                 have Z1 := (unhide bV).block _ (Array.getElem?_eq_some_iff.1 (unhide XX)).1
                 rw [unhide XX] at Z1
                 have v0 := fcell Z1 0 _ rfl
                 have v1 := fcell Z1 1 _ rfl
                 have v2 := fcell Z1 2 _ rfl
                 have v3 := fcell Z1 3 _ rfl
                 clear hX hn2 b2 Z1))
            all_goals
              go_wp2
              exact ⟨⟨j + 1, m + 1, sp9, c9, out ++ [(nm, ⟨⟨true, Y, []⟩, sp2, c2, none, 0⟩)], by omega, by omega, rfl, by go_num, by rw [List.length_append, unhide HM]; rfl, O9, G9, hide (by
                rw [unhide TK2, ← unhide HP]
                simp only [rss, List.map_append, List.map_cons, List.map_nil]), B9⟩, by simp [intOf]; omega⟩
          | false =>
            by_cases hq0 : q = 0
            · subst hq0
              have TK2 := hide (show crashS ks 0 (rss (rs.take (j + 1))) = crashS ks 0 (rss (rs.take j)) by
                rw [unhide TK]
                unfold crashOne
                rw [if_pos (show t.la = false ∧ (crashL t.cs t.y U).2 = U from (crash_gone (unhide OK) U).2 ⟨unhide HLA, .inr (unhide HQ)⟩), List.append_nil])
              clear TK MC
              go_wp2
              exact ⟨⟨j + 1, m, op, oc, out, by omega, by omega, rfl, by go_num, unhide HM, unhide O1, unhide HG, by rw [unhide TK2]; exact unhide HP, unhide B1⟩, by simp [intOf]; omega⟩
            · have yq : ((q : Int) == 0) = false := by simp; omega
              have TK2 := hide (show crashS ks 0 (rss (rs.take (j + 1))) = crashS ks 0 (rss (rs.take j)) ++ [(nm, ⟨true, Y, []⟩)] by
                rw [unhide TK]
                unfold crashOne
                rw [if_neg (show ¬ (t.la = false ∧ (crashL t.cs t.y U).2 = U) from fun hh => (fun (e : t.la = false ∧ _) => e.2.elim (fun e => hU0 e) (fun e => hq0 ((unhide HQ).symm.trans e))) ((crash_gone (unhide OK) U).1 hh))]
                show _ ++ [(nm, (⟨true, (crashL t.cs t.y U).1, []⟩ : Sp))] = _
                rw [unhide HY])
              clear TK
              go_wp2_with fail
              generalize wr.alloc (.cells #[.string (str nm), .bool false, .slice yp t.y.length yc, .slice up q uc] 80) = V7 at *
              have z0 := fcell (unhide XX) 0 _ rfl
              have z1 := fcell (unhide XX) 1 _ rfl
              have z2 := fcell (unhide XX) 2 _ rfl
              have z3 := fcell (unhide XX) 3 _ rfl
              go_region_law (first
                | (have hU' : W2 = W2 := rfl
                   clear hU'
                   refine step_appendR rfl (.tmp 55) (.tmp 62) rfl base op m oc out rfl (unhide HM) (by exact unhide Oa) W2.heap.size (nm, ⟨⟨true, Y, []⟩, sp2, c2, none, 0⟩) rfl (by exact unhide Xa) (by exact unhide Da) (by omega) (by exact unhide Sa) ?_
                   intro sp9 c9 W9 hO9 hG9
                   have O9 := hide hO9
                   have B9 := hide (show Below w.heap.size w W9 from (unhide Ba).grown hG9.grown (unhide Ba).size (fun g' hg' => unhide HG g' (.inl hg')))
                   have G9 := hide (show ∀ g, footR sp9 (out ++ [(nm, ⟨⟨true, Y, []⟩, sp2, c2, none, 0⟩)]) g → w.heap.size ≤ g from fun g hg => by
                     rcases hg with hg | ⟨z, hz, hg⟩
                     · rcases hG9.lies g hg with h1 | h1
                       · exact unhide HG g (.inl h1)
                       · exact Nat.le_trans (unhide Ba).size h1
                     · rcases List.mem_append.1 hz with hz | hz
                       · exact unhide HG g (.inr ⟨z, hz, hg⟩)
                       · have hz1 := List.mem_singleton.1 hz
                         subst hz1
                         rcases hg with hg | hg
                         · exact unhide La g hg
                         · cases hg)
                   clear hO9 hG9)
                | (go_simp
                   go_at_call 57
                   refine (unhide MC).mono ?_
                   rintro e W2 ⟨sp2, n2, c2, rfl, hn2, hX, b2⟩
                   have hW : n2 = Y.length := hn2.symm
                   subst hW
                   have bV := hide (show Below V7.heap.size V7 W2 from ⟨b2.os, b2.tape, b2.output, b2.size, b2.block⟩)
                   have bA := hide (show Below W2.heap.size W2 (W2.alloc (.cells #[.string (str nm), .bool true, .slice sp2 Y.length c2, .slice none 0 0] 80)) from (Below.refl _ _).alloc (Nat.le_refl _) _)
                   have bVA := hide ((unhide bV).trans ((unhide bA).mono (unhide bV).size))
                   have Ba := hide ((unhide B1).trans ((unhide bVA).mono (unhide B1).size))
                   have Oa := hide ((unhide O1).later (unhide bVA))
                   have Xa := hide (heap_new W2 (.cells #[.string (str nm), .bool true, .slice sp2 Y.length c2, .slice none 0 0] 80))
                   have Sa := hide (Nat.le_trans (unhide HS) (unhide Ba).size)
                   have La := hide (show ∀ g, blk sp2 = some g → w.heap.size ≤ g from fun g hg => Nat.le_trans (unhide B1).size (hX.isT g hg).1)
                   have Da := hide (show RfAt base (W2.alloc (.cells #[.string (str nm), .bool true, .slice sp2 Y.length c2, .slice none 0 0] 80)) (nm, ⟨⟨true, Y, []⟩, sp2, c2, none, 0⟩) from ⟨unhide YOK, (hX.mono (Nat.le_trans (unhide HS) (unhide B1).size)).later (unhide bA), World.ownsRow_nil _ base 90 3, by simp [Sp.us, usL]⟩)
                   have Z1 := (unhide bV).block _ (Array.getElem?_eq_some_iff.1 (unhide XX)).1
                   rw [unhide XX] at Z1
                   have v0 := fcell Z1 0 _ rfl
                   have v1 := fcell Z1 1 _ rfl
                   have v2 := fcell Z1 2 _ rfl
                   have v3 := fcell Z1 3 _ rfl
                   clear hX hn2 b2 Z1))
              all_goals
                go_wp2
                exact ⟨⟨j + 1, m + 1, sp9, c9, out ++ [(nm, ⟨⟨true, Y, []⟩, sp2, c2, none, 0⟩)], by omega, by omega, rfl, by go_num, by rw [List.length_append, unhide HM]; rfl, O9, G9, hide (by
                  rw [unhide TK2, ← unhide HP]
                  simp only [rss, List.map_append, List.map_cons, List.map_nil]), B9⟩, by simp [intOf]; omega⟩
        · have hkU : U = 0 := by omega
          subst hkU
          have yk : (j : Int) < (kn : Int) := by omega
          clear hmax
          cases la with
          | true =>
            have TK2 := hide (show crashS ks 0 (rss (rs.take (j + 1))) = crashS ks 0 (rss (rs.take j)) ++ [(nm, ⟨true, Y, []⟩)] by
              rw [unhide TK]
              unfold crashOne
              rw [if_neg (show ¬ (t.la = false ∧ (crashL t.cs t.y 0).2 = 0) from fun hh => (fun (e : t.la = false ∧ _) => by have := unhide HLA; rw [e.1] at this; cases this) ((crash_gone (unhide OK) 0).1 hh))]
              show _ ++ [(nm, (⟨true, (crashL t.cs t.y 0).1, []⟩ : Sp))] = _
              rw [unhide HY])
            clear TK
            go_wp2_with fail
            generalize wr.alloc (.cells #[.string (str nm), .bool true, .slice yp t.y.length yc, .slice up q uc] 80) = V7 at *
            have z0 := fcell (unhide XX) 0 _ rfl
            have z1 := fcell (unhide XX) 1 _ rfl
            have z2 := fcell (unhide XX) 2 _ rfl
            have z3 := fcell (unhide XX) 3 _ rfl
            go_region_law (first
              | (have hU' : W2 = W2 := rfl
                 clear hU'
                 refine step_appendR rfl (.tmp 55) (.tmp 62) rfl base op m oc out rfl (unhide HM) (by exact unhide Oa) W2.heap.size (nm, ⟨⟨true, Y, []⟩, sp2, c2, none, 0⟩) rfl (by exact unhide Xa) (by exact unhide Da) (by omega) (by exact unhide Sa) ?_
                 intro sp9 c9 W9 hO9 hG9
                 have O9 := hide hO9
                 have B9 := hide (show Below w.heap.size w W9 from (unhide Ba).grown hG9.grown (unhide Ba).size (fun g' hg' => unhide HG g' (.inl hg')))
                 have G9 := hide (show ∀ g, footR sp9 (out ++ [(nm, ⟨⟨true, Y, []⟩, sp2, c2, none, 0⟩)]) g → w.heap.size ≤ g from fun g hg => by
                   rcases hg with hg | ⟨z, hz, hg⟩
                   · rcases hG9.lies g hg with h1 | h1
                     · exact unhide HG g (.inl h1)
                     · exact Nat.le_trans (unhide Ba).size h1
                   · rcases List.mem_append.1 hz with hz | hz
                     · exact unhide HG g (.inr ⟨z, hz, hg⟩)
                     · have hz1 := List.mem_singleton.1 hz
                       subst hz1
                       rcases hg with hg | hg
                       · exact unhide La g hg
                       · cases hg)
                 clear hO9 hG9)
              | (go_simp
                 go_at_call 57
                 refine (unhide MC).mono ?_
                 rintro e W2 ⟨sp2, n2, c2, rfl, hn2, hX, b2⟩
                 have hW : n2 = Y.length := hn2.symm
                 subst hW
                 have bV := hide (show Below V7.heap.size V7 W2 from ⟨b2.os, b2.tape, b2.output, b2.size, b2.block⟩)
                 have bA := hide (show Below W2.heap.size W2 (W2.alloc (.cells #[.string (str nm), .bool true, .slice sp2 Y.length c2, .slice none 0 0] 80)) from (Below.refl _ _).alloc (Nat.le_refl _) _)
                 have bVA := hide ((unhide bV).trans ((unhide bA).mono (unhide bV).size))
                 have Ba := hide ((unhide B1).trans ((unhide bVA).mono (unhide B1).size))
                 have Oa := hide ((unhide O1).later (unhide bVA))
                 have Xa := hide (heap_new W2 (.cells #[.string (str nm), .bool true, .slice sp2 Y.length c2, .slice none 0 0] 80))
                 have Sa := hide (Nat.le_trans (unhide HS) (unhide Ba).size)
                 have La := hide (show ∀ g, blk sp2 = some g → w.heap.size ≤ g from fun g hg => Nat.le_trans (unhide B1).size (hX.isT g hg).1)
                 have Da := hide (show RfAt base (W2.alloc (.cells #[.string (str nm), .bool true, .slice sp2 Y.length c2, .slice none 0 0] 80)) (nm, ⟨⟨true, Y, []⟩, sp2, c2, none, 0⟩) from ⟨unhide YOK, (hX.mono (Nat.le_trans (unhide HS) (unhide B1).size)).later (unhide bA), World.ownsRow_nil _ base 90 3, by simp [Sp.us, usL]⟩)
                 have Z1 := (unhide bV).block _ (Array.getElem?_eq_some_iff.1 (unhide XX)).1
                 rw [unhide XX] at Z1
                 have v0 := fcell Z1 0 _ rfl
                 have v1 := fcell Z1 1 _ rfl
                 have v2 := fcell Z1 2 _ rfl
                 have v3 := fcell Z1 3 _ rfl
                 clear hX hn2 b2 Z1))
            all_goals
              go_wp2
              exact ⟨⟨j + 1, m + 1, sp9, c9, out ++ [(nm, ⟨⟨true, Y, []⟩, sp2, c2, none, 0⟩)], by omega, by omega, rfl, by go_num, by rw [List.length_append, unhide HM]; rfl, O9, G9, hide (by
                rw [unhide TK2, ← unhide HP]
                simp only [rss, List.map_append, List.map_cons, List.map_nil]), B9⟩, by simp [intOf]; omega⟩
          | false =>
            have TK2 := hide (show crashS ks 0 (rss (rs.take (j + 1))) = crashS ks 0 (rss (rs.take j)) by
              rw [unhide TK]
              unfold crashOne
              rw [if_pos (show t.la = false ∧ (crashL t.cs t.y 0).2 = 0 from (crash_gone (unhide OK) 0).2 ⟨unhide HLA, .inl rfl⟩), List.append_nil])
            clear TK MC
            go_wp2
            exact ⟨⟨j + 1, m, op, oc, out, by omega, by omega, rfl, by go_num, unhide HM, unhide O1, unhide HG, by rw [unhide TK2]; exact unhide HP, unhide B1⟩, by simp [intOf]; omega⟩
      · have yk : ¬ (j : Int) < (kn : Int) := by omega
        cases la with
        | true =>
          have TK2 := hide (show crashS ks 0 (rss (rs.take (j + 1))) = crashS ks 0 (rss (rs.take j)) ++ [(nm, ⟨true, Y, []⟩)] by
            rw [unhide TK]
            unfold crashOne
            rw [if_neg (show ¬ (t.la = false ∧ (crashL t.cs t.y 0).2 = 0) from fun hh => (fun (e : t.la = false ∧ _) => by have := unhide HLA; rw [e.1] at this; cases this) ((crash_gone (unhide OK) 0).1 hh))]
            show _ ++ [(nm, (⟨true, (crashL t.cs t.y 0).1, []⟩ : Sp))] = _
            rw [unhide HY])
          clear TK
          go_wp2_with fail
          generalize wr.alloc (.cells #[.string (str nm), .bool true, .slice yp t.y.length yc, .slice up q uc] 80) = V7 at *
          have z0 := fcell (unhide XX) 0 _ rfl
          have z1 := fcell (unhide XX) 1 _ rfl
          have z2 := fcell (unhide XX) 2 _ rfl
          have z3 := fcell (unhide XX) 3 _ rfl
          go_region_law (first
            | (have hU' : W2 = W2 := rfl
               clear hU'
               refine step_appendR rfl (.tmp 55) (.tmp 62) rfl base op m oc out rfl (unhide HM) (by exact unhide Oa) W2.heap.size (nm, ⟨⟨true, Y, []⟩, sp2, c2, none, 0⟩) rfl (by exact unhide Xa) (by exact unhide Da) (by omega) (by exact unhide Sa) ?_
               intro sp9 c9 W9 hO9 hG9
               have O9 := hide hO9
               have B9 := hide (show Below w.heap.size w W9 from (unhide Ba).grown hG9.grown (unhide Ba).size (fun g' hg' => unhide HG g' (.inl hg')))
               have G9 := hide (show ∀ g, footR sp9 (out ++ [(nm, ⟨⟨true, Y, []⟩, sp2, c2, none, 0⟩)]) g → w.heap.size ≤ g from fun g hg => by
                 rcases hg with hg | ⟨z, hz, hg⟩
                 · rcases hG9.lies g hg with h1 | h1
                   · exact unhide HG g (.inl h1)
                   · exact Nat.le_trans (unhide Ba).size h1
                 · rcases List.mem_append.1 hz with hz | hz
                   · exact unhide HG g (.inr ⟨z, hz, hg⟩)
                   · have hz1 := List.mem_singleton.1 hz
                     subst hz1
                     rcases hg with hg | hg
                     · exact unhide La g hg
                     · cases hg)
               clear hO9 hG9)
            | (go_simp
               go_at_call 57
               refine (unhide MC).mono ?_
               rintro e W2 ⟨sp2, n2, c2, rfl, hn2, hX, b2⟩
               have hW : n2 = Y.length := hn2.symm
               subst hW
               have bV := hide (show Below V7.heap.size V7 W2 from ⟨b2.os, b2.tape, b2.output, b2.size, b2.block⟩)
               have bA := hide (show Below W2.heap.size W2 (W2.alloc (.cells #[.string (str nm), .bool true, .slice sp2 Y.length c2, .slice none 0 0] 80)) from (Below.refl _ _).alloc (Nat.le_refl _) _)
               have bVA := hide ((unhide bV).trans ((unhide bA).mono (unhide bV).size))
               have Ba := hide ((unhide B1).trans ((unhide bVA).mono (unhide B1).size))
               have Oa := hide ((unhide O1).later (unhide bVA))
               have Xa := hide (heap_new W2 (.cells #[.string (str nm), .bool true, .slice sp2 Y.length c2, .slice none 0 0] 80))
               have Sa := hide (Nat.le_trans (unhide HS) (unhide Ba).size)
               have La := hide (show ∀ g, blk sp2 = some g → w.heap.size ≤ g from fun g hg => Nat.le_trans (unhide B1).size (hX.isT g hg).1)
               have Da := hide (show RfAt base (W2.alloc (.cells #[.string (str nm), .bool true, .slice sp2 Y.length c2, .slice none 0 0] 80)) (nm, ⟨⟨true, Y, []⟩, sp2, c2, none, 0⟩) from ⟨unhide YOK, (hX.mono (Nat.le_trans (unhide HS) (unhide B1).size)).later (unhide bA), World.ownsRow_nil _ base 90 3, by simp [Sp.us, usL]⟩)
               have Z1 := (unhide bV).block _ (Array.getElem?_eq_some_iff.1 (unhide XX)).1
               rw [unhide XX] at Z1
               have v0 := fcell Z1 0 _ rfl
               have v1 := fcell Z1 1 _ rfl
               have v2 := fcell Z1 2 _ rfl
               have v3 := fcell Z1 3 _ rfl
               clear hX hn2 b2 Z1))
          all_goals
            go_wp2
            exact ⟨⟨j + 1, m + 1, sp9, c9, out ++ [(nm, ⟨⟨true, Y, []⟩, sp2, c2, none, 0⟩)], by omega, by omega, rfl, by go_num, by rw [List.length_append, unhide HM]; rfl, O9, G9, hide (by
              rw [unhide TK2, ← unhide HP]
              simp only [rss, List.map_append, List.map_cons, List.map_nil]), B9⟩, by simp [intOf]; omega⟩
        | false =>
          have TK2 := hide (show crashS ks 0 (rss (rs.take (j + 1))) = crashS ks 0 (rss (rs.take j)) by
            rw [unhide TK]
            unfold crashOne
            rw [if_pos (show t.la = false ∧ (crashL t.cs t.y 0).2 = 0 from (crash_gone (unhide OK) 0).2 ⟨unhide HLA, .inl rfl⟩), List.append_nil])
          clear TK MC
          go_wp2
          exact ⟨⟨j + 1, m, op, oc, out, by omega, by omega, rfl, by go_num, unhide HM, unhide O1, unhide HG, by rw [unhide TK2]; exact unhide HP, unhide B1⟩, by simp [intOf]; omega⟩
    · have y1 : ¬ (j : Int) < (n : Int) := by omega
      have hjr : rs.take j = rs := List.take_of_length_le (by rw [unhide HN]; omega)
      rw [hjr] at HP
      have E3 := hide (unhide EN wr op m oc out (unhide HB) (unhide HO) (unhide HM) (unhide HG) (unhide HP))
      clear hjr
      go_wp2
      go_end0
      exact ⟨rfl, unhide E3⟩
end
end Go.Proofs.Ytghdiemihceaoaa
end
/- Deeds of a disk that came in, opened; few enough (short). -/
section
namespace Go.Proofs.Ytghdiemihceaoaa
open Go.ChangeShapes Go.WideShapes Go.ChangeAt Go.RowKit

/-- A deed: its kind, name, the other name, place, bytes, what is kept. -/
structure De where
  kind : Int
  name : ByteArray
  to : ByteArray
  at_ : Int
  bs : List Nat
  keep : List Int
instance : Inhabited De := ⟨⟨0, ByteArray.empty, ByteArray.empty, 0, [], []⟩⟩
/-- Where a deed's rows lie. -/
structure DeH where
  bp : Option Addr
  bc : Nat
  kp : Option Addr
  kc : Nat
def deVal (e : De) (h : DeH) : Value := .agg #[.int .i64 e.kind, .string e.name, .string e.to, .int .i64 e.at_, .slice h.bp e.bs.length h.bc, .slice h.kp e.keep.length h.kc]
def W64 (n : Int) : Prop := -9223372036854775808 ≤ n ∧ n ≤ 9223372036854775807
/-- What is known of a deed that came in. -/
structure DeAt (w : World) (e : De) (h : DeH) : Prop where
  wk : W64 e.kind
  wa : W64 e.at_
  sn : e.name.size ≤ maxLen
  st : e.to.size ≤ maxLen
  sb : e.bs.length ≤ maxLen
  sk : e.keep.length ≤ maxLen
  by_ : BytesAt w h.bp e.bs
  bz : h.bp = none → h.bc = 0
  ks : IntsAt w h.kp e.keep
  bcap : e.bs.length ≤ h.bc
theorem DeAt.later {w w' : World} {e : De} {h : DeH} (x : DeAt w e h) (hb : Below w.heap.size w w') : DeAt w' e h := ⟨x.wk, x.wa, x.sn, x.st, x.sb, x.sk, x.by_.later hb, x.bz, x.ks.later hb, x.bcap⟩
def deCells (e : De) (h : DeH) (w : World) (b off : Nat) : Prop :=
  w.cell? ⟨b, off, none⟩ = some (.int .i64 e.kind) ∧ w.cell? ⟨b, off + 1, none⟩ = some (.string e.name) ∧ w.cell? ⟨b, off + 2, none⟩ = some (.string e.to) ∧ w.cell? ⟨b, off + 3, none⟩ = some (.int .i64 e.at_) ∧
  w.cell? ⟨b, off + 4, none⟩ = some (.slice h.bp e.bs.length h.bc) ∧ w.cell? ⟨b, off + 5, none⟩ = some (.slice h.kp e.keep.length h.kc)
structure DesAt (w : World) (a : Option Addr) (es : List De) : Prop where
  cell : ∀ i (hi : i < es.length), ∃ b off h, a = some ⟨b, off, none⟩ ∧ deCells es[i] h w b (off + i * 6) ∧ DeAt w es[i] h
theorem DesAt.later {w w' : World} {a : Option Addr} {es : List De} (h : DesAt w a es) (hb : Below w.heap.size w w') : DesAt w' a es :=
  ⟨fun i hi => by
    obtain ⟨b, off, hh, h0, ⟨h1, h2, h3, h4, h5, h6⟩, h7⟩ := h.cell i hi
    exact ⟨b, off, hh, h0, ⟨cell_later hb h1, cell_later hb h2, cell_later hb h3, cell_later hb h4, cell_later hb h5, cell_later hb h6⟩, h7.later hb⟩⟩
theorem cells6 {w : World} {a : Addr} {cs : List Value} (h : w.cells? 0 a 6 = some cs) : ∃ v0 v1 v2 v3 v4 v5, cs = [v0, v1, v2, v3, v4, v5] ∧ w.cell? (a.add 0) = some v0 ∧ w.cell? (a.add 1) = some v1 ∧ w.cell? (a.add 2) = some v2 ∧ w.cell? (a.add 3) = some v3 ∧ w.cell? (a.add 4) = some v4 ∧ w.cell? (a.add 5) = some v5 := by
  unfold World.cells? at h
  rw [if_pos (Nat.zero_le _)] at h
  simp only [show List.range 6 = [0, 1, 2, 3, 4, 5] from rfl, List.mapM_cons, List.mapM_nil, Option.bind_eq_bind, Option.bind_eq_some_iff, Option.pure_def, Option.some.injEq] at h
  obtain ⟨v0, h0, r, ⟨v1, h1, r1, ⟨v2, h2, r2, ⟨v3, h3, r3, ⟨v4, h4, r4, ⟨v5, h5, r5, rfl, rfl⟩, rfl⟩, rfl⟩, rfl⟩, rfl⟩, rfl⟩ := h
  exact ⟨v0, v1, v2, v3, v4, v5, rfl, h0, h1, h2, h3, h4, h5⟩
theorem list6 {α : Type} {l : List α} (h : l.length = 6) : ∃ c0 c1 c2 c3 c4 c5, l = [c0, c1, c2, c3, c4, c5] := by
  match l, h with
  | [c0, c1, c2, c3, c4, c5], _ => exact ⟨c0, c1, c2, c3, c4, c5, rfl⟩
set_option maxRecDepth 20000 in
theorem de_open {H : Type} {enc : TypeId × Value → H} {W : World} {n : Nat} {v0 v1 v2 v3 v4 v5 : Value} {y : DataW H × List MemPlace}
    (h2 : DataW.trod enc Try.prog W 0 (fun _ => true) true n 31 [v0, v1, v2, v3, v4, v5] = some y) :
    ∃ (e : De) (h : DeH), v0 = .int .i64 e.kind ∧ v1 = .string e.name ∧ v2 = .string e.to ∧ v3 = .int .i64 e.at_ ∧ v4 = .slice h.bp e.bs.length h.bc ∧ v5 = .slice h.kp e.keep.length h.kc ∧ DeAt W e h := by
  obtain ⟨xs, n', _, _, _, hx, hfs⟩ := DataW.trod_struct Try.underlying31 h2
  obtain ⟨y0, y1, y2, y3, y4, y5, rfl⟩ := list6 (show xs.length = 6 from hx)
  obtain ⟨k, e0, _, w0⟩ := DataW.trod_int Try.underlying3 (show DataW.trod enc Try.prog W 0 (fun _ => true) true n' 3 [v0] = some y0 from hfs 0 _ rfl)
  obtain ⟨nm, e1, _, w1⟩ := DataW.trod_string Try.underlying9 (show DataW.trod enc Try.prog W 0 (fun _ => true) true n' 9 [v1] = some y1 from hfs 1 _ rfl)
  obtain ⟨to, e2, _, w2⟩ := DataW.trod_string Try.underlying9 (show DataW.trod enc Try.prog W 0 (fun _ => true) true n' 9 [v2] = some y2 from hfs 2 _ rfl)
  obtain ⟨j, e3, _, w3⟩ := DataW.trod_int Try.underlying3 (show DataW.trod enc Try.prog W 0 (fun _ => true) true n' 3 [v3] = some y3 from hfs 3 _ rfl)
  have t4 : DataW.trod enc Try.prog W 0 (fun _ => true) true n' 28 [v4] = some y4 := hfs 4 _ rfl
  have t5 : DataW.trod enc Try.prog W 0 (fun _ => true) true n' 29 [v5] = some y5 := hfs 5 _ rfl
  obtain ⟨a', l', c', e4⟩ := Joins.slice_form Try.underlying28 t4
  obtain ⟨a5, l5, c5, e5⟩ := Joins.slice_form Try.underlying29 t5
  simp only [List.cons.injEq, and_true] at e0 e1 e2 e3 e4 e5
  subst e0 e1 e2 e3 e4 e5
  have hs : DataW.Trod enc Try.prog W 0 (fun _ => true) true 28 (.slice a' l' c') y4.1 y4.2 := ⟨n', t4⟩
  have hs5 : DataW.Trod enc Try.prog W 0 (fun _ => true) true 29 (.slice a5 l5 c5) y5.1 y5.2 := ⟨n', t5⟩
  obtain ⟨bs, rfl, hc, hx, hb, hz, _⟩ := row8 hs
  obtain ⟨ks, rfl, hk, hI⟩ := row64 hs5
  exact ⟨⟨k, nm, to, j, bs, ks⟩, ⟨a', c', a5, c5⟩, rfl, rfl, rfl, rfl, rfl, rfl, i64_bounds w0, i64_bounds w3, w1, w2, by simp only; omega, hk, hb, hz, hI, hc⟩
set_option maxRecDepth 20000 in
theorem ddeeds_arg {H : Type} {enc : TypeId × Value → H} {W : World} {a : Option Addr} {len cap : Nat} {d : DataW H} {p : List MemPlace}
    (h : DataW.Trod enc Try.prog W 0 (fun _ => true) true 22 (.slice a len cap) d p) :
    ∃ es : List De, es.length = len ∧ len ≤ maxLen ∧ DesAt W a es := by
  obtain ⟨fuel, hf⟩ := h
  have c6 : Try.prog.cellsOf 31 = 6 := by kernel_rfl
  rcases Deep.open_slice Try.underlying22 hf with ⟨hcs, _⟩ | ⟨x, l, c, m, n, D, Pl, hcs, _, hl, hm, hm', _, hel⟩
  · simp [Value.cells] at hcs
    obtain ⟨rfl, rfl, rfl⟩ := hcs
    exact ⟨[], rfl, by simp [maxLen], ⟨by simp⟩⟩
  · simp [Value.cells] at hcs
    obtain ⟨rfl, rfl, rfl⟩ := hcs
    have hmm : m = cap := by simpa using hm'
    rw [c6] at hel
    have hone : ∀ i, i < len → ∃ (e : De), ∃ h : DeH, W.cell? ((x.add (i * 6)).add 0) = some (.int .i64 e.kind) ∧ W.cell? ((x.add (i * 6)).add 1) = some (.string e.name) ∧ W.cell? ((x.add (i * 6)).add 2) = some (.string e.to) ∧ W.cell? ((x.add (i * 6)).add 3) = some (.int .i64 e.at_) ∧ W.cell? ((x.add (i * 6)).add 4) = some (.slice h.bp e.bs.length h.bc) ∧ W.cell? ((x.add (i * 6)).add 5) = some (.slice h.kp e.keep.length h.kc) ∧ DeAt W e h := by
      intro i hi
      obtain ⟨cs', h1, h2⟩ := hel i (by omega)
      obtain ⟨v0, v1, v2, v3, v4, v5, rfl, g0, g1, g2, g3, g4, g5⟩ := cells6 h1
      obtain ⟨e, h, rfl, rfl, rfl, rfl, rfl, rfl, hd⟩ := de_open h2
      exact ⟨e, h, g0, g1, g2, g3, g4, g5, hd⟩
    obtain ⟨f, hfp⟩ := Deep.choose_lt (n := len) (p := fun i (e : De) => ∃ h : DeH, W.cell? ((x.add (i * 6)).add 0) = some (.int .i64 e.kind) ∧ W.cell? ((x.add (i * 6)).add 1) = some (.string e.name) ∧ W.cell? ((x.add (i * 6)).add 2) = some (.string e.to) ∧ W.cell? ((x.add (i * 6)).add 3) = some (.int .i64 e.at_) ∧ W.cell? ((x.add (i * 6)).add 4) = some (.slice h.bp e.bs.length h.bc) ∧ W.cell? ((x.add (i * 6)).add 5) = some (.slice h.kp e.keep.length h.kc) ∧ DeAt W e h) (fun i hi => hone i hi)
    refine ⟨(List.range len).map f, by simp, by omega, ⟨fun i hi => ?_⟩⟩
    simp only [List.length_map, List.length_range] at hi
    obtain ⟨h, h0, h1, h2, h3, h4, h5, h6⟩ := hfp i hi
    have e : ((List.range len).map f)[i]'(by simpa using hi) = f i := by simp
    rw [e]
    obtain ⟨b, off, spot⟩ := x
    obtain ⟨_, h00, _⟩ := hfp 0 (by omega)
    have hspot : spot = none := by simpa [Addr.add] using World.cell?_spot h00
    subst hspot
    simp only [Addr.add_lit] at h0 h1 h2 h3 h4 h5
    exact ⟨b, off, h, rfl, ⟨h0, h1, h2, h3, h4, h5⟩, h6⟩
/-- Few enough to be played? -/
def De.short (e : De) : Bool := decide (e.bs.length ≤ 4000) && decide (e.keep.length ≤ 100)
set_option maxHeartbeats 4000000 in
theorem short_calls (e : De) (h : DeH) (w : World) : Calls Try.prog 14 #[deVal e h] w fun r w' => r = .returned (.bool e.short) ∧ Below w.heap.size w w' := by
  unfold deVal
  have B1 := hide (show Below w.heap.size w (w.alloc (.cells #[.int .i64 e.kind, .string e.name, .string e.to, .int .i64 e.at_, .slice h.bp e.bs.length h.bc, .slice h.kp e.keep.length h.kc] 31)) from (Below.refl _ _).alloc (Nat.le_refl _) _)
  by_cases hb : e.bs.length ≤ 4000
  · have y1 : (e.bs.length : Int) ≤ 4000 := by omega
    by_cases hk : e.keep.length ≤ 100
    · have y2 : (e.keep.length : Int) ≤ 100 := by omega
      have E := hide (show e.short = true by simp [De.short, hb, hk])
      go_enter Try.func14, Try.ntmps14
      go_wp2
      go_ret
      exact ⟨by rw [unhide E]; rfl, unhide B1⟩
    · have y2 : ¬ (e.keep.length : Int) ≤ 100 := by omega
      have E := hide (show e.short = false by simp [De.short, hk])
      go_enter Try.func14, Try.ntmps14
      go_wp2
      go_ret
      exact ⟨by rw [unhide E]; rfl, unhide B1⟩
  · have y1 : ¬ (e.bs.length : Int) ≤ 4000 := by omega
    have E := hide (show e.short = false by simp [De.short, hb])
    go_enter Try.func14, Try.ntmps14
    go_wp2
    go_ret
    exact ⟨by rw [unhide E]; rfl, unhide B1⟩
end Go.Proofs.Ytghdiemihceaoaa
end
/- The two disks side by side: the program's and the document's. -/
section
namespace Go.Proofs.Ytghdiemihceaoaa
open Go.ChangeShapes Go.WideShapes Go.ChangeAt Go.RowKit Go.Maps

/-- All below base, and some blocks above it, stay. -/
structure Keeps (base : Nat) (B : List Nat) (w w' : World) : Prop where
  os : w'.os = w.os
  tape : w'.tape = w.tape
  output : w'.output = w.output
  size : w.heap.size ≤ w'.heap.size
  block : ∀ g, g < base ∨ g ∈ B → w'.heap[g]? = w.heap[g]?
theorem Keeps.refl (base : Nat) (B : List Nat) (w : World) : Keeps base B w w := ⟨rfl, rfl, rfl, Nat.le_refl _, fun _ _ => rfl⟩
theorem Keeps.trans {base : Nat} {B : List Nat} {w w1 w2 : World} (h : Keeps base B w w1) (k : Keeps base B w1 w2) : Keeps base B w w2 := ⟨k.os.trans h.os, k.tape.trans h.tape, k.output.trans h.output, Nat.le_trans h.size k.size, fun g hg => (k.block g hg).trans (h.block g hg)⟩
theorem Keeps.sub {base : Nat} {B B' : List Nat} {w w' : World} (h : Keeps base B w w') (hs : ∀ g ∈ B', g ∈ B) : Keeps base B' w w' := ⟨h.os, h.tape, h.output, h.size, fun g hg => h.block g (hg.imp id (hs g))⟩
theorem Keeps.below {base : Nat} {B : List Nat} {w w' : World} (h : Keeps base B w w') : Below base w w' := ⟨h.os, h.tape, h.output, h.size, fun g hg => h.block g (.inl hg)⟩
/-- Both, where they lie; the blocks of B belong to neither. -/
structure TwoAt (base : Nat) (B : List Nat) (w : World) (d M R room N : Nat) (fs : List Fe) (sp : Option Addr) (c : Nat) (rs : List Rf) : Prop where
  le : base ≤ w.heap.size
  few : N ≤ 300
  disk : DiskAt base w d M room N fs
  ref : RefAt 0 w R room sp c rs
  lowR : base ≤ R
  fewR : ∀ x ∈ rs, x.2.s.cs.length ≤ 300
  apart : ∀ g, g = R ∨ footR sp rs g → ¬ DMut d M fs g
  redR : ¬ DRed fs R
  aside : ∀ g ∈ B, g < w.heap.size ∧ ¬ DMut d M fs g ∧ ¬ DRed fs g ∧ g ≠ R ∧ ¬ footR sp rs g
section
variable {base d M R room N N' : Nat} {B : List Nat} {w w' : World} {fs fs' : List Fe} {sp : Option Addr} {c : Nat} {rs rs' : List Rf}
theorem RefAt.foot_lt (h : RefAt base w R room sp c rs) {g : Nat} (hg : g = R ∨ footR sp rs g) : base ≤ g ∧ g < w.heap.size := by
  rcases hg with rfl | hg
  · exact ⟨h.low, h.ltR⟩
  · exact h.own.lt hg
theorem TwoAt.left (h : TwoAt base B w d M R room N fs sp c rs) (hd : DiskAt base w' d M room N' fs') (hg : DGrew d M w fs w' fs') (hN : N' ≤ 300) : TwoAt base B w' d M R room N' fs' sp c rs ∧ Keeps base B w w' := by
  have hm : ∀ g, g < w.heap.size → ¬ DMut d M fs g → ¬ DMut d M fs' g := fun g hl hn hm => by
    rcases hg.muts g hm with h1 | h1
    · exact hn h1
    · omega
  have hr : ∀ g, g < w.heap.size → ¬ DRed fs g → ¬ DRed fs' g := fun g hl hn hm => by
    rcases hg.reds g hm with h1 | h1
    · exact hn h1
    · omega
  refine ⟨⟨Nat.le_trans h.le hg.size, hN, hd, h.ref.same (hg.block R h.ref.ltR (h.apart R (.inl rfl))) (fun g hgf => hg.block g (h.ref.foot_lt (.inr hgf)).2 (h.apart g (.inr hgf))), h.lowR, h.fewR, fun g hgf => hm g (h.ref.foot_lt hgf).2 (h.apart g hgf), hr R h.ref.ltR h.redR, fun g hgB => ?_⟩, ⟨hg.os, hg.tape, hg.output, hg.size, fun g hgB => ?_⟩⟩
  · obtain ⟨a1, a2, a3, a4, a5⟩ := h.aside g hgB
    exact ⟨Nat.lt_of_lt_of_le a1 hg.size, hm g a1 a2, hr g a1 a3, a4, a5⟩
  · rcases hgB with h1 | h1
    · exact hg.block g (Nat.lt_of_lt_of_le h1 h.le) (fun hmm => by have := (h.disk.mut_lt hmm).1; omega)
    · obtain ⟨a1, a2, _⟩ := h.aside g h1
      exact hg.block g a1 a2
theorem sps_few (hd : DiskAt base w d M room N fs) (hN : N ≤ 300) : ∀ x ∈ sps fs, x.2.cs.length ≤ 300 := by
  intro x hx
  unfold sps at hx
  obtain ⟨y, hy, rfl⟩ := List.mem_map.1 hx
  have := (hd.ok y hy).few
  show (y.2.2.xs.map (·.1)).length ≤ 300
  rw [List.length_map]
  omega
theorem TwoAt.right (h : TwoAt base B w d M R room N fs sp c rs) (hr : RDone 0 R room w sp rs rs' w') (he : rss rs' = sps fs) : ∃ sp' c', TwoAt base B w' d M R room N fs sp' c' rs' ∧ Keeps base B w w' := by
  obtain ⟨⟨sp', c', ha, hf⟩, hg⟩ := hr
  have hne : ∀ g, g < w.heap.size → g ≠ R → w'.heap[g]? = w.heap[g]? := fun g hl hn => hg.block g hl (fun e => hn (Option.some.inj e))
  refine ⟨sp', c', ⟨Nat.le_trans h.le hg.size, h.few, h.disk.same (fun g hl hm => hne g hl ?_), ha, h.lowR, fun x hx => ?_, fun g hgf hm => ?_, h.redR, fun g hgB => ?_⟩, ⟨hg.os, hg.tape, hg.output, hg.size, fun g hgB => ?_⟩⟩
  · rintro rfl
    rcases hm with hm | hm
    · exact h.apart g (.inl rfl) hm
    · exact h.redR hm
  · have hx2 : (x.1, x.2.s) ∈ rss rs' := List.mem_map.2 ⟨x, hx, rfl⟩
    rw [he] at hx2
    exact sps_few h.disk h.few _ hx2
  · rcases hgf with rfl | hgf
    · exact h.apart g (.inl rfl) hm
    · rcases hf g hgf with h1 | h1
      · exact h.apart g (.inr h1) hm
      · have := (h.disk.mut_lt hm).2; omega
  · obtain ⟨a1, a2, a3, a4, a5⟩ := h.aside g hgB
    refine ⟨Nat.lt_of_lt_of_le a1 hg.size, a2, a3, a4, fun hgf => ?_⟩
    rcases hf g hgf with h1 | h1
    · exact a5 h1
    · omega
  · rcases hgB with h1 | h1
    · exact hne g (Nat.lt_of_lt_of_le h1 h.le) (fun e => by have := h.lowR; omega)
    · obtain ⟨a1, _, _, a4, _⟩ := h.aside g h1
      exact hne g a1 a4
theorem TwoAt.later (h : TwoAt base B w d M R room N fs sp c rs) (hb : Below w.heap.size w w') : TwoAt base B w' d M R room N fs sp c rs :=
  ⟨Nat.le_trans h.le hb.size, h.few, h.disk.later hb, h.ref.later hb, h.lowR, h.fewR, h.apart, h.redR, fun g hg => by
    obtain ⟨a1, a2⟩ := h.aside g hg
    exact ⟨Nat.lt_of_lt_of_le a1 hb.size, a2⟩⟩
/-- A new block belongs to neither. -/
theorem TwoAt.push (h : TwoAt base B w d M R room N fs sp c rs) (o : Obj) : TwoAt base (w.heap.size :: B) (w.alloc o) d M R room N fs sp c rs := by
  have hb : Below w.heap.size w (w.alloc o) := (Below.refl _ _).alloc (Nat.le_refl _) _
  have h2 := h.later hb
  refine ⟨h2.le, h2.few, h2.disk, h2.ref, h2.lowR, h2.fewR, h2.apart, h2.redR, fun g hg => ?_⟩
  rcases List.mem_cons.1 hg with rfl | hg
  · refine ⟨by simp, fun hm => ?_, fun hm => ?_, fun e => ?_, fun hm => ?_⟩
    · have := (h.disk.mut_lt hm).2; omega
    · have := (h.disk.red_lt hm).2; omega
    · have := h.ref.ltR; omega
    · have := (h.ref.foot_lt (.inr hm)).2; omega
  · exact h2.aside g hg
theorem TwoAt.sub {B' : List Nat} (h : TwoAt base B w d M R room N fs sp c rs) (hs : ∀ g ∈ B', g ∈ B) : TwoAt base B' w d M R room N fs sp c rs := ⟨h.le, h.few, h.disk, h.ref, h.lowR, h.fewR, h.apart, h.redR, fun g hg => h.aside g (hs g hg)⟩
/-- What changes of the blocks aside changes neither. -/
theorem TwoAt.byB {g : Nat} (h : TwoAt base B w d M R room N fs sp c rs) (hg : g ∈ B) (hb : w.grownBy w' (some g)) : TwoAt base B w' d M R room N fs sp c rs := by
  obtain ⟨a1, a2, a3, a4, a5⟩ := h.aside g hg
  have hne : ∀ i, i < w.heap.size → i ≠ g → w'.heap[i]? = w.heap[i]? := fun i hl hn => hb.block i hl (fun e => hn (Option.some.inj e))
  refine ⟨Nat.le_trans h.le hb.size, h.few, h.disk.same (fun i hl hm => hne i hl ?_), h.ref.same (hne R h.ref.ltR (fun e => a4 e.symm)) (fun i hi => hne i (h.ref.foot_lt (.inr hi)).2 (fun e => a5 (e ▸ hi))), h.lowR, h.fewR, h.apart, h.redR, fun i hi => ?_⟩
  · rintro rfl
    exact hm.elim a2 a3
  · obtain ⟨b1, b2⟩ := h.aside i hi
    exact ⟨Nat.lt_of_lt_of_le b1 hb.size, b2⟩
end
/-- Both, by the document: the program's files, the document's. -/
def Two (base : Nat) (B : List Nat) (w : World) (d M R room N : Nat) (ss tt : Ds) : Prop := ∃ fs sp c rs, TwoAt base B w d M R room N fs sp c rs ∧ sps fs = ss ∧ rss rs = tt
section
variable {base d M R room N : Nat} {B : List Nat} {w w' : World} {ss tt : Ds}
theorem Two.later (h : Two base B w d M R room N ss tt) (hb : Below w.heap.size w w') : Two base B w' d M R room N ss tt := by
  obtain ⟨fs, sp, c, rs, h, e⟩ := h
  exact ⟨fs, sp, c, rs, h.later hb, e⟩
theorem Two.push (h : Two base B w d M R room N ss tt) (o : Obj) : Two base (w.heap.size :: B) (w.alloc o) d M R room N ss tt := by
  obtain ⟨fs, sp, c, rs, h, e⟩ := h
  exact ⟨fs, sp, c, rs, h.push o, e⟩
theorem Two.sub {B' : List Nat} (h : Two base B w d M R room N ss tt) (hs : ∀ g ∈ B', g ∈ B) : Two base B' w d M R room N ss tt := by
  obtain ⟨fs, sp, c, rs, h, e⟩ := h
  exact ⟨fs, sp, c, rs, h.sub hs, e⟩
theorem Two.byB {g : Nat} (h : Two base B w d M R room N ss tt) (hg : g ∈ B) (hb : w.grownBy w' (some g)) : Two base B w' d M R room N ss tt := by
  obtain ⟨fs, sp, c, rs, h, e⟩ := h
  exact ⟨fs, sp, c, rs, h.byB hg hb, e⟩
theorem Two.mono {N' : Nat} (h : Two base B w d M R room N ss tt) (hN : N ≤ N') (hN' : N' ≤ 300) : Two base B w d M R room N' ss tt := by
  obtain ⟨fs, sp, c, rs, h, e⟩ := h
  exact ⟨fs, sp, c, rs, ⟨h.le, hN', h.disk.mono hN, h.ref, h.lowR, h.fewR, h.apart, h.redR, h.aside⟩, e⟩
theorem Two.le (h : Two base B w d M R room N ss tt) : base ≤ w.heap.size := by
  obtain ⟨fs, sp, c, rs, h, e⟩ := h
  exact h.le
/-- How a call on the program's disk ends. -/
def LEnd (base : Nat) (B : List Nat) (d M R room N : Nat) (w : World) (tt : Ds) (r : Nat × Ds) (e : Ending) (w' : World) : Prop := e = .returned (.int .i64 (r.1 : Int)) ∧ Two base B w' d M R room N r.2 tt ∧ Keeps base B w w'
theorem LEnd.of {r : Nat × Ds} {N' : Nat} {fs : List Fe} {sp : Option Addr} {c : Nat} {rs : List Rf} {e : Ending} (h : TwoAt base B w d M R room N fs sp c rs) (hN : N' ≤ 300) (hd : DEnd base d M room N' w fs r e w') : LEnd base B d M R room N' w (rss rs) r e w' := by
  obtain ⟨he, fs', h1, h2, h3⟩ := hd
  obtain ⟨a, b⟩ := h.left h1 h2 hN
  exact ⟨he, ⟨fs', sp, c, rs, a, h3, rfl⟩, b⟩
/-- How a call on the document's disk ends that does what the program's did. -/
def MEnd (base : Nat) (B : List Nat) (d M R room N : Nat) (w : World) (r : Nat × Ds) (e : Ending) (w' : World) : Prop := e = .returned (.int .i64 (r.1 : Int)) ∧ Two base B w' d M R room N r.2 r.2 ∧ Keeps base B w w'
theorem MEnd.of {r : Nat × Ds} {fs : List Fe} {sp : Option Addr} {c : Nat} {rs : List Rf} {e : Ending} (h : TwoAt base B w d M R room N fs sp c rs) (hr : REnd 0 R room w sp rs r e w') (he : sps fs = r.2) : MEnd base B d M R room N w r e w' := by
  obtain ⟨h1, rs', h2, h3⟩ := hr
  obtain ⟨sp', c', a, b⟩ := h.right h3 (h2.trans he.symm)
  exact ⟨h1, ⟨fs, sp', c', rs', a, he, h2⟩, b⟩
theorem lsync_calls (h : Two base B w d M R room N ss tt) (s : ByteArray) (hs : s.size ≤ maxLen) : Calls Try.prog 23 #[.pointer (some ⟨d, 0, none⟩), .string s] w (LEnd base B d M R room N w tt (dSync s.data.toList ss)) := by
  obtain ⟨fs, sp, c, rs, h, rfl, rfl⟩ := h
  exact (dsync_calls h.disk h.le s hs).mono (fun e w' he => LEnd.of h h.few he)
theorem lremove_calls (h : Two base B w d M R room N ss tt) (s : ByteArray) (hs : s.size ≤ maxLen) : Calls Try.prog 21 #[.pointer (some ⟨d, 0, none⟩), .string s] w (LEnd base B d M R room N w tt (dRemove s.data.toList ss)) := by
  obtain ⟨fs, sp, c, rs, h, rfl, rfl⟩ := h
  exact (dremove_calls h.disk s hs).mono (fun e w' he => LEnd.of h h.few he)
theorem lrename_calls (h : Two base B w d M R room N ss tt) (a b : ByteArray) (ha : a.size ≤ maxLen) (hb : b.size ≤ maxLen) : Calls Try.prog 25 #[.pointer (some ⟨d, 0, none⟩), .string a, .string b] w (LEnd base B d M R room N w tt (dRename a.data.toList b.data.toList ss)) := by
  obtain ⟨fs, sp, c, rs, h, rfl, rfl⟩ := h
  exact (drename_calls h.disk a b ha hb).mono (fun e w' he => LEnd.of h h.few he)
theorem lcut_calls (h : Two base B w d M R room N ss tt) (hN : N + 1 ≤ 300) (s : ByteArray) (hs : s.size ≤ maxLen) (z : Int) : Calls Try.prog 24 #[.pointer (some ⟨d, 0, none⟩), .string s, .int .i64 z] w (LEnd base B d M R room (N + 1) w tt (dCut s.data.toList z ss)) := by
  obtain ⟨fs, sp, c, rs, h, rfl, rfl⟩ := h
  exact (dcut_calls h.disk h.le (by omega) s hs z).mono (fun e w' he => LEnd.of h hN he)
theorem lwrite_calls (h : Two base B w d M R room N ss tt) (hN : N + 1 ≤ 300) (s : ByteArray) (hs : s.size ≤ maxLen) (z : Int) (hz : z ≤ 9223372036854775807) (xp : Option Addr) (xn xc : Nat) (o : List Nat) (ho : o.length = xn) (hxc : xn ≤ xc) (hB : BytesAt w xp o) (hx0 : xp = none → xc = 0) (hne : ∀ b off, xp = some ⟨b, off, none⟩ → 0 < xn → b < base ∨ b ∈ B) (hxl : xn ≤ 140737488355328) :
    Calls Try.prog 22 #[.pointer (some ⟨d, 0, none⟩), .string s, .int .i64 z, .slice xp xn xc] w (LEnd base B d M R room (N + 1) w tt (dWrite room s.data.toList z o ss)) := by
  obtain ⟨fs, sp, c, rs, h, rfl, rfl⟩ := h
  exact (dwrite_calls h.disk h.le (by omega) s hs z hz xp xn xc o ho hxc hB hx0 (fun b off e h0 hm => by
    rcases hne b off e h0 with h1 | h1
    · have := (h.disk.mut_lt hm).1; omega
    · exact (h.aside b h1).2.1 hm) hxl).mono (fun e w' he => LEnd.of h hN he)
theorem lcrash_calls (h : Two base B w d M R room N ss tt) (kp : Option Addr) (kn kc : Nat) (ks : List Int) (hks : ks.length = kn) (hI : IntsAt w kp ks) (hlo : ∀ b off, kp = some ⟨b, off, none⟩ → 0 < ks.length → b < base) :
    Calls Try.prog 26 #[.pointer (some ⟨d, 0, none⟩), .slice kp kn kc] w fun e w' => e = .returned (.tuple #[]) ∧ Two base B w' d M R room N (crashS ks 0 ss) tt ∧ Keeps base B w w' := by
  obtain ⟨fs, sp, c, rs, h, rfl, rfl⟩ := h
  refine (dcrash_calls h.disk h.le (by have := h.few; omega) kp kn kc ks hks hI (fun b off e h0 hm => by
    have := hlo b off e h0
    have := (h.disk.mut_lt hm).1
    omega)).mono ?_
  rintro e w' ⟨he, fs', h1, h2, h3⟩
  obtain ⟨a, b⟩ := h.left h1 h2 h.few
  exact ⟨he, ⟨fs', sp, c, rs, a, h3, rfl⟩, b⟩
theorem msync_calls (s : ByteArray) (h : Two base B w d M R room N (dSync s.data.toList tt).2 tt) : Calls Try.prog 37 #[.pointer (some ⟨R, 0, none⟩), .string s] w (MEnd base B d M R room N w (dSync s.data.toList tt)) := by
  obtain ⟨fs, sp, c, rs, h, he, rfl⟩ := h
  exact (rsync_calls h.ref (Nat.zero_le _) s).mono (fun e w' hr => MEnd.of h hr he)
theorem mremove_calls (s : ByteArray) (h : Two base B w d M R room N (dRemove s.data.toList tt).2 tt) : Calls Try.prog 39 #[.pointer (some ⟨R, 0, none⟩), .string s] w (MEnd base B d M R room N w (dRemove s.data.toList tt)) := by
  obtain ⟨fs, sp, c, rs, h, he, rfl⟩ := h
  exact (rremove_calls h.ref (Nat.zero_le _) s).mono (fun e w' hr => MEnd.of h hr he)
theorem mrename_calls (s b : ByteArray) (hb : b.size ≤ maxLen) (h : Two base B w d M R room N (dRename s.data.toList b.data.toList tt).2 tt) : Calls Try.prog 38 #[.pointer (some ⟨R, 0, none⟩), .string s, .string b] w (MEnd base B d M R room N w (dRename s.data.toList b.data.toList tt)) := by
  obtain ⟨fs, sp, c, rs, h, he, rfl⟩ := h
  exact (rrename_calls h.ref (Nat.zero_le _) s b hb).mono (fun e w' hr => MEnd.of h hr he)
theorem mcut_calls (s : ByteArray) (z : Int) (h : Two base B w d M R room N (dCut s.data.toList z tt).2 tt) : Calls Try.prog 36 #[.pointer (some ⟨R, 0, none⟩), .string s, .int .i64 z] w (MEnd base B d M R room N w (dCut s.data.toList z tt)) := by
  obtain ⟨fs, sp, c, rs, h, he, rfl⟩ := h
  exact (rcut_calls h.ref (Nat.zero_le _) s z h.fewR).mono (fun e w' hr => MEnd.of h hr he)
theorem mwrite_calls (s : ByteArray) (hs : s.size ≤ maxLen) (z : Int) (hz : z ≤ 9223372036854775807) (xp : Option Addr) (xn xc : Nat) (o : List Nat) (ho : o.length = xn) (hB : BytesAt w xp o) (hxl : xn ≤ 4000) (h : Two base B w d M R room N (dWrite room s.data.toList z o tt).2 tt) :
    Calls Try.prog 35 #[.pointer (some ⟨R, 0, none⟩), .string s, .int .i64 z, .slice xp xn xc] w (MEnd base B d M R room N w (dWrite room s.data.toList z o tt)) := by
  obtain ⟨fs, sp, c, rs, h, he, rfl⟩ := h
  exact (rwrite_calls h.ref (Nat.zero_le _) s hs z hz xp xn xc o ho hB hxl h.fewR).mono (fun e w' hr => MEnd.of h hr he)
theorem mcrash_calls (kp : Option Addr) (kn kc : Nat) (ks : List Int) (hks : ks.length = kn) (hI : IntsAt w kp ks) (h : Two base B w d M R room N (crashS ks 0 tt) tt) :
    Calls Try.prog 33 #[.pointer (some ⟨R, 0, none⟩), .slice kp kn kc] w fun e w' => e = .returned (.tuple #[]) ∧ Two base B w' d M R room N (crashS ks 0 tt) (crashS ks 0 tt) ∧ Keeps base B w w' := by
  obtain ⟨fs, sp, c, rs, h, he, rfl⟩ := h
  refine (rcrash_calls h.ref (Nat.zero_le _) kp kn kc ks hks hI).mono ?_
  rintro e w' ⟨h1, rs', h2, h3⟩
  obtain ⟨sp', c', a, b⟩ := h.right h3 (h2.trans he.symm)
  exact ⟨h1, ⟨fs, sp', c', rs', a, he, h2⟩, b⟩
end
end Go.Proofs.Ytghdiemihceaoaa
end
