/- The document's disk: Write, all of it. -/
import Derived.Test.YtagncghpfdjkmaaGreatDoorB35
import Derived.Test.YtagncghpfdjkmaaGreatDoorB34
section
namespace Go.Proofs.YtagncghpfdjkmaaGreatDoor
open Go.ChangeShapes Go.WideShapes Go.ChangeAt Go.RowKit Go.Maps
section
variable {base R room : Nat} {w w' : World} {sp : Option Addr} {c : Nat} {rs rs' : List Rf}
set_option maxRecDepth 20000 in
set_option maxHeartbeats 40000000 in
theorem rwrite_calls (h : RefAt base w R room sp c rs) (hbs : base ≤ w.heap.size) (s : ByteArray) (hs : s.size ≤ maxLen) (z : Int) (hz64 : z ≤ 9223372036854775807) (xp : Option Addr) (xn xc : Nat) (o : List Nat) (ho : o.length = xn) (hB : BytesAt w xp o) (hxl : xn ≤ 1000000) (hcs : ∀ x ∈ rs, x.2.s.cs.length ≤ 300) :
    Calls Tryz.prog 29 #[.pointer (some ⟨R, 0, none⟩), .string s, .int .i64 z, .slice xp xn xc] w (REnd base R room w sp rs (dWrite room s.data.toList z o (rss rs))) := by
  cases hnl : nameL s.data.toList with
  | true =>
    by_cases hm : s.data.toList ∈ rs.map (·.1)
    · obtain ⟨x, hx, e⟩ := List.mem_map.1 hm
      obtain ⟨i, hi, e2⟩ := List.mem_iff_getElem.1 hx
      exact rwrite_old h hbs s hs hnl i hi (by rw [e2]; exact e) z hz64 xp xn xc o ho hB hxl hcs
    · exact rwrite_new h hbs s hs hnl hm z hz64 xp xn xc o ho hB hxl
  | false =>
    have NB := hide (fun (W : World) => named_calls s W hs)
    rw [hnl] at NB
    have E14 := hide (show ∀ W, Below w.heap.size w W → REnd base R room w sp rs (dWrite room s.data.toList z o (rss rs)) (.returned (.int .i64 14)) W from fun W hb => REnd.stay h hb (by simp [dWrite, hnl]) (by simp [dWrite, hnl]))
    clear h hbs hB hcs hnl
    go_enter Tryz.func29, Tryz.ntmps29
    go_wp2_with (go_at_call 83; refine (unhide NB _).mono ?_; rintro e w' ⟨rfl, rfl⟩)
    go_ret
    exact unhide E14 _ (Below.refl _ _)
end
end Go.Proofs.YtagncghpfdjkmaaGreatDoor
end
/- The document's disk: Crash. -/
section
namespace Go.Proofs.YtagncghpfdjkmaaGreatDoor
open Go.ChangeShapes Go.WideShapes Go.ChangeAt Go.RowKit Go.Maps

theorem crash_gone {s : Sp} (h : SOk s) (U : Nat) : (s.la = false ∧ (crashL s.cs s.y U).2 = U) ↔ (s.la = false ∧ (U = 0 ∨ s.us.length = 0)) := by
  constructor
  · rintro ⟨h1, h2⟩
    refine ⟨h1, ?_⟩
    by_cases hU : U = 0
    · exact .inl hU
    · refine .inr ?_
      cases hc : s.cs with
      | nil => simp [Sp.us, usL, hc]
      | cons c cs =>
        exfalso
        rw [hc] at h2
        have hsc := h.small c (by rw [hc]; exact List.mem_cons_self)
        have hpos : 0 < unitsC c := by
          unfold unitsC
          cases hb : c.1 with
          | true => simp
          | false => simp only [Bool.false_eq_true, if_false]; exact (hsc.1 hb).2
        have key : ∀ (l : List Chg) (y : List Nat) (n : Nat), (crashL l y n).2 ≤ n := by
          intro l
          induction l with
          | nil => intro y n; simp [crashL]
          | cons d ds ih =>
            intro y n
            unfold crashL
            split
            · omega
            · have := ih (ontoC d y (min n (unitsC d))) (n - min n (unitsC d))
              omega
        unfold crashL at h2
        rw [if_neg hU] at h2
        have := key cs (ontoC c s.y (min U (unitsC c))) (U - min U (unitsC c))
        omega
  · rintro ⟨h1, h2 | h2⟩
    · refine ⟨h1, ?_⟩
      rw [h2, crashL_zero]
    · refine ⟨h1, ?_⟩
      have := crashL_all s.cs s.y h.small U (by show s.us.length ≤ U; omega)
      rw [this]
      show U - s.us.length = U
      omega
theorem SOk.crashed {s : Sp} (h : SOk s) (U : Nat) : SOk ⟨true, (crashL s.cs s.y U).1, []⟩ := ⟨trivial, by simp, by rw [← h.made]; exact h.len _, by rw [← h.made]; exact h.lt _, by simp⟩
theorem crashS_app (ks : List Int) : ∀ (p r : Ds) (i : Nat), crashS ks i (p ++ r) = crashS ks i p ++ crashS ks (i + p.length) r
  | [], r, i => by simp [crashS]
  | x :: p, r, i => by
    simp only [List.cons_append, crashS, List.length_cons]
    rw [crashS_app ks p r (i + 1), List.append_assoc, show i + 1 + p.length = i + (p.length + 1) by omega]
theorem crashS_rise (ks : List Int) : ∀ (l : Ds) (i : Nat), Rises l → Rises (crashS ks i l) ∧ (∀ y ∈ crashS ks i l, ∃ x ∈ l, x.1 = y.1) ∧ (crashS ks i l).length ≤ l.length
  | [], _, _ => ⟨List.Pairwise.nil, by simp [crashS], by simp [crashS]⟩
  | x :: l, i, h => by
    have h1 := List.pairwise_cons.1 h
    obtain ⟨a, b, c⟩ := crashS_rise ks l (i + 1) h1.2
    unfold crashS crashOne
    split
    · exact ⟨a, fun y hy => by obtain ⟨z, hz, e⟩ := b y hy; exact ⟨z, List.mem_cons_of_mem _ hz, e⟩, by simp at c ⊢; omega⟩
    · refine ⟨List.pairwise_cons.2 ⟨fun y hy => by obtain ⟨z, hz, e⟩ := b y hy; rw [← e]; exact h1.1 z hz, a⟩, fun y hy => ?_, by simp at c ⊢; omega⟩
      rcases List.mem_cons.1 hy with rfl | hy
      · exact ⟨x, List.mem_cons_self, rfl⟩
      · obtain ⟨z, hz, e⟩ := b y hy
        exact ⟨z, List.mem_cons_of_mem _ hz, e⟩
section
variable {base R room : Nat} {w w' : World} {sp : Option Addr} {c : Nat} {rs rs' : List Rf}
set_option maxRecDepth 20000 in
set_option maxHeartbeats 40000000 in
theorem rcrash_calls (h : RefAt base w R room sp c rs) (hbs : base ≤ w.heap.size) (kp : Option Addr) (kn kc : Nat) (ks : List Int) (hks : ks.length = kn) (hI : IntsAt w kp ks) :
    Calls Tryz.prog 27 #[.pointer (some ⟨R, 0, none⟩), .slice kp kn kc] w fun e w' => e = .returned (.tuple #[]) ∧ ∃ rs', rss rs' = crashS ks 0 (rss rs) ∧ RDone base R room w sp rs rs' w' := by
  have B0 := hide (show Below w.heap.size w (w.alloc (.cells #[] 120)) from (Below.refl _ _).alloc (Nat.le_refl _) _)
  have O0 := hide (show OwnR base (w.alloc (.cells #[] 120)) (some ⟨w.heap.size, 0, none⟩) 0 [] from ⟨own_mono (OwnR.empty w w.heap.size (Nat.le_refl _)).row hbs, by simp⟩)
  have VC := hide (fun W (hb : Below w.heap.size w W) => h.later hb)
  have RC := hide (fun W (hb : Below w.heap.size w W) => show W.cell? ⟨R, 1, none⟩ = some (.slice sp rs.length c) ∧ W.frozen? ⟨R, 1, none⟩ = false from ⟨(unhide VC W hb).c1, (unhide VC W hb).z1⟩)
  have KI := hide (fun W (hb : Below w.heap.size w W) => hI.later hb)
  have H := hide h
  have HS := hide hbs
  have HK := hide hks
  have h16 := h.few
  have EN := hide (show ∀ W op m oc out, Below w.heap.size w W → OwnR base W op oc out → out.length = m → (∀ g, footR op out g → w.heap.size ≤ g) → rss out = crashS ks 0 (rss rs) → ∃ rs', rss rs' = crashS ks 0 (rss rs) ∧ RDone base R room w sp rs rs' (W.setCell ⟨R, 1, none⟩ (.slice op m oc)) from fun W op m oc out hb ho hm hg he => by
    obtain ⟨a1, a2, a3⟩ := crashS_rise ks (rss rs) 0 (h.rise.map (fun v : RV => v.s))
    have hr : Rises out := by
      have h5 : Rises (rss out) := by rw [he]; exact a1
      have h6 := List.pairwise_map.1 (show (out.map (fun x => (x.1, x.2.s))).Pairwise (fun x y => x.1 < y.1) from h5)
      exact h6
    have hl : out.length ≤ 16 := by
      have h1 : (rss out).length = out.length := by simp [rss]
      have h2 : (rss rs).length = rs.length := by simp [rss]
      rw [← he, h1, h2] at a3
      omega
    exact ⟨out, he, h.stored hb ho hm hr hl (fun g hgg => .inr (hg g hgg))⟩)
  clear h hbs hI hks
  obtain ⟨n, hn⟩ : ∃ n, rs.length = n := ⟨_, rfl⟩
  rw [hn] at RC h16
  have HN := hide hn
  clear hn
  obtain ⟨c1, _⟩ := unhide RC _ (unhide B0)
  go_enter Tryz.func27, Tryz.ntmps27
  go_wp2_with fail
  go_loopw [4, 5] (fun v4 v5 wr => ∃ (j m : Nat) (op : Option Addr) (oc : Nat) (out : List Rf), j ≤ n ∧ m ≤ j ∧ v4 = .slice op m oc ∧ v5 = .int .i64 (j : Int) ∧ Hid (out.length = m) ∧ Hid (OwnR base wr op oc out) ∧ Hid (∀ g, footR op out g → w.heap.size ≤ g) ∧ Hid (rss out = crashS ks 0 (rss (rs.take j))) ∧ Hid (Below w.heap.size w wr)) (fun _ v5 _ => n - (intOf v5).toNat)
  case atStart => exact ⟨0, 0, _, 0, [], by omega, by omega, rfl, rfl, rfl, O0, hide (fun g hg => by
    rcases hg with hg | ⟨x, hx, _⟩
    · simp [blk] at hg; omega
    · simp at hx), rfl, B0⟩
  case round =>
    obtain ⟨j, m, op, oc, out, hj, hmj, rfl, rfl, HM, HO, HG, HP, HB⟩ := hrel
    obtain ⟨d1, f1⟩ := unhide RC wr (unhide HB)
    by_cases hjn : j < n
    · have y1 : (j : Int) < (n : Int) := by omega
      have y0 : (0 : Int) ≤ (j : Int) := by omega
      have hjr : j < rs.length := by rw [unhide HN]; exact hjn
      obtain ⟨g, rfl, p0, p1, p2, p3⟩ := (unhide VC wr (unhide HB)).own.cells j hjr
      have DAT := hide (fun W (hb : Below w.heap.size w W) => (unhide VC W hb).own.dat _ (List.getElem_mem hjr))
      have TK := hide (show crashS ks 0 (rss (rs.take (j + 1))) = crashS ks 0 (rss (rs.take j)) ++ crashOne (unitsAt ks j) (rs[j].1, rs[j].2.s) by
        have e1 : rss (rs.take (j + 1)) = rss (rs.take j) ++ [(rs[j].1, rs[j].2.s)] := by
          rw [List.take_succ_eq_append_getElem hjr]; simp only [rss, List.map_append, List.map_cons, List.map_nil]
        have e2 : (rss (rs.take j)).length = j := by simp [rss]; omega
        rw [e1, crashS_app, e2, Nat.zero_add]
        simp [crashS])
      generalize rs[j] = x at *
      obtain ⟨nm, t, yp, yc, up, uc⟩ := x
      simp only at p0 p1 p2 p3 DAT TK
      have OK := hide (show SOk t from (unhide DAT wr (unhide HB)).ok)
      obtain ⟨U, hU⟩ : ∃ U, unitsAt ks j = U := ⟨_, rfl⟩
      rw [hU] at TK
      have A1 := hide (show Below wr.heap.size wr (wr.alloc (rfObj (nm, ⟨t, yp, yc, up, uc⟩))) from (Below.refl _ _).alloc (Nat.le_refl _) _)
      have X1 := heap_new wr (rfObj (nm, ⟨t, yp, yc, up, uc⟩))
      have x0 := fcell X1 0 _ rfl
      have x1 := fcell X1 1 _ rfl
      have x2 := fcell X1 2 _ rfl
      have x3 := fcell X1 3 _ rfl
      have B1 := hide ((unhide HB).trans ((unhide A1).mono (unhide HB).size))
      have O1 := hide ((unhide HO).later (unhide A1))
      have MC := hide (made_calls base (wr.alloc (rfObj (nm, ⟨t, yp, yc, up, uc⟩))).drew (nm, ⟨t, yp, yc, up, uc⟩) ((unhide DAT _ (unhide B1)).same (fun _ _ => rfl)) (U : Int))
      unfold rfVal at MC
      unfold rfObj at A1 B1 O1 MC X1
      have XX := hide X1
      rw [Int.toNat_natCast] at MC
      simp only at MC
      clear X1
      have kcase : ∃ kv : Int, (j < kn ∧ ∃ b off, kp = some ⟨b, off, none⟩ ∧ wr.cell? ⟨b, off + j, none⟩ = some (.int .i64 kv) ∧ (U : Int) = max kv 0) ∨ (¬ j < kn ∧ U = 0) := by
        by_cases hjk : j < kn
        · have hjk2 : j < ks.length := by rw [unhide HK]; exact hjk
          obtain ⟨b, off, e1, e2⟩ := (unhide KI wr (unhide HB)).cell j hjk2
          refine ⟨ks[j], .inl ⟨hjk, b, off, e1, e2, ?_⟩⟩
          rw [← hU]
          unfold unitsAt
          rw [List.getD_eq_getElem?_getD, List.getElem?_eq_getElem hjk2]
          simp only [Option.getD_some]
          omega
        · refine ⟨0, .inr ⟨hjk, ?_⟩⟩
          rw [← hU]
          unfold unitsAt
          rw [List.getD_eq_getElem?_getD, List.getElem?_eq_none (by rw [unhide HK]; omega)]
          rfl
      have HU := hide hU
      clear hU
      obtain ⟨la, hla⟩ : ∃ la, t.la = la := ⟨_, rfl⟩
      obtain ⟨q, hq⟩ : ∃ q, t.us.length = q := ⟨_, rfl⟩
      obtain ⟨Y, hY⟩ : ∃ Y, (crashL t.cs t.y U).1 = Y := ⟨_, rfl⟩
      rw [(unhide OK).made, hY] at MC
      have YOK := hide (show SOk ⟨true, Y, []⟩ from hY ▸ (unhide OK).crashed U)
      rw [hla] at x1 p1 A1 B1 O1 XX MC
      rw [hq] at x3 p3 A1 B1 O1 XX MC
      rw [hla, hq] at x0
      rw [hq] at x1
      rw [hla, hq] at x2
      rw [hla] at x3
      have HLA := hide hla
      have HQ := hide hq
      have HY := hide hY
      clear hla hq hY
      obtain ⟨kv, ⟨hjk, b, off, rfl, e2, hmax⟩ | ⟨hjk, rfl⟩⟩ := kcase
      · by_cases hk0 : 0 < kv
        · have hkU : kv = (U : Int) := by omega
          subst hkU
          have yk : (j : Int) < (kn : Int) := by omega
          have hU0 : ¬ U = 0 := by omega
          have yU : ((U : Int) == 0) = false := by simp; omega
          clear hmax
          cases la with
          | true =>
            have TK2 := hide (show crashS ks 0 (rss (rs.take (j + 1))) = crashS ks 0 (rss (rs.take j)) ++ [(nm, ⟨true, Y, []⟩)] by
              rw [unhide TK]
              unfold crashOne
              rw [if_neg (show ¬ (t.la = false ∧ (crashL t.cs t.y U).2 = U) from fun hh => (fun (e : t.la = false ∧ _) => by have := unhide HLA; rw [e.1] at this; cases this) ((crash_gone (unhide OK) U).1 hh))]
              show _ ++ [(nm, (⟨true, (crashL t.cs t.y U).1, []⟩ : Sp))] = _
              rw [unhide HY])
            clear TK
            go_wp2_with fail
            generalize wr.alloc (.cells #[.string (str nm), .bool true, .slice yp t.y.length yc, .slice up q uc] 120) = V7 at *
            have z0 := fcell (unhide XX) 0 _ rfl
            have z1 := fcell (unhide XX) 1 _ rfl
            have z2 := fcell (unhide XX) 2 _ rfl
            have z3 := fcell (unhide XX) 3 _ rfl
            go_region_law (first
              | (have hU' : W2 = W2 := rfl
                 clear hU'
                 refine step_appendR rfl (.tmp 55) (.tmp 62) rfl base op m oc out rfl (unhide HM) (by exact unhide Oa) W2.heap.size (nm, ⟨⟨true, Y, []⟩, sp2, c2, none, 0⟩) rfl (by exact unhide Xa) (by exact unhide Da) (by omega) (by exact unhide Sa) ?_
                 intro sp9 c9 W9 hO9 hG9
                 have O9 := hide hO9
                 have B9 := hide (show Below w.heap.size w W9 from (unhide Ba).grown hG9.grown (unhide Ba).size (fun g' hg' => unhide HG g' (.inl hg')))
                 have G9 := hide (show ∀ g, footR sp9 (out ++ [(nm, ⟨⟨true, Y, []⟩, sp2, c2, none, 0⟩)]) g → w.heap.size ≤ g from fun g hg => by
                   rcases hg with hg | ⟨z, hz, hg⟩
                   · rcases hG9.lies g hg with h1 | h1
                     · exact unhide HG g (.inl h1)
                     · exact Nat.le_trans (unhide Ba).size h1
                   · rcases List.mem_append.1 hz with hz | hz
                     · exact unhide HG g (.inr ⟨z, hz, hg⟩)
                     · have hz1 := List.mem_singleton.1 hz
                       subst hz1
                       rcases hg with hg | hg
                       · exact unhide La g hg
                       · cases hg)
                 clear hO9 hG9)
              | (go_simp
                 go_at_call 80
                 refine (unhide MC).mono ?_
                 rintro e W2 ⟨sp2, n2, c2, rfl, hn2, hX, b2⟩
                 have hW : n2 = Y.length := hn2.symm
                 subst hW
                 have bV := hide (show Below V7.heap.size V7 W2 from ⟨b2.os, b2.tape, b2.output, b2.size, b2.block⟩)
                 have bA := hide (show Below W2.heap.size W2 (W2.alloc (.cells #[.string (str nm), .bool true, .slice sp2 Y.length c2, .slice none 0 0] 120)) from (Below.refl _ _).alloc (Nat.le_refl _) _)
                 have bVA := hide ((unhide bV).trans ((unhide bA).mono (unhide bV).size))
                 have Ba := hide ((unhide B1).trans ((unhide bVA).mono (unhide B1).size))
                 have Oa := hide ((unhide O1).later (unhide bVA))
                 have Xa := hide (heap_new W2 (.cells #[.string (str nm), .bool true, .slice sp2 Y.length c2, .slice none 0 0] 120))
                 have Sa := hide (Nat.le_trans (unhide HS) (unhide Ba).size)
                 have La := hide (show ∀ g, blk sp2 = some g → w.heap.size ≤ g from fun g hg => Nat.le_trans (unhide B1).size (hX.isT g hg).1)
                 have Da := hide (show RfAt base (W2.alloc (.cells #[.string (str nm), .bool true, .slice sp2 Y.length c2, .slice none 0 0] 120)) (nm, ⟨⟨true, Y, []⟩, sp2, c2, none, 0⟩) from ⟨unhide YOK, (hX.mono (Nat.le_trans (unhide HS) (unhide B1).size)).later (unhide bA), World.ownsRow_nil _ base 131 3, by simp [Sp.us, usL]⟩)
                 have Z1 := (unhide bV).block _ (Array.getElem?_eq_some_iff.1 (unhide XX)).1
                 rw [unhide XX] at Z1
                 have v0 := fcell Z1 0 _ rfl
                 have v1 := fcell Z1 1 _ rfl
                 have v2 := fcell Z1 2 _ rfl
                 have v3 := fcell Z1 3 _ rfl
                 clear hX hn2 b2 Z1))
            all_goals
              go_wp2
              exact ⟨⟨j + 1, m + 1, sp9, c9, out ++ [(nm, ⟨⟨true, Y, []⟩, sp2, c2, none, 0⟩)], by omega, by omega, rfl, by go_num, by rw [List.length_append, unhide HM]; rfl, O9, G9, hide (by
                rw [unhide TK2, ← unhide HP]
                simp only [rss, List.map_append, List.map_cons, List.map_nil]), B9⟩, by simp [intOf]; omega⟩
          | false =>
            by_cases hq0 : q = 0
            · subst hq0
              have TK2 := hide (show crashS ks 0 (rss (rs.take (j + 1))) = crashS ks 0 (rss (rs.take j)) by
                rw [unhide TK]
                unfold crashOne
                rw [if_pos (show t.la = false ∧ (crashL t.cs t.y U).2 = U from (crash_gone (unhide OK) U).2 ⟨unhide HLA, .inr (unhide HQ)⟩), List.append_nil])
              clear TK MC
              go_wp2
              exact ⟨⟨j + 1, m, op, oc, out, by omega, by omega, rfl, by go_num, unhide HM, unhide O1, unhide HG, by rw [unhide TK2]; exact unhide HP, unhide B1⟩, by simp [intOf]; omega⟩
            · have yq : ((q : Int) == 0) = false := by simp; omega
              have TK2 := hide (show crashS ks 0 (rss (rs.take (j + 1))) = crashS ks 0 (rss (rs.take j)) ++ [(nm, ⟨true, Y, []⟩)] by
                rw [unhide TK]
                unfold crashOne
                rw [if_neg (show ¬ (t.la = false ∧ (crashL t.cs t.y U).2 = U) from fun hh => (fun (e : t.la = false ∧ _) => e.2.elim (fun e => hU0 e) (fun e => hq0 ((unhide HQ).symm.trans e))) ((crash_gone (unhide OK) U).1 hh))]
                show _ ++ [(nm, (⟨true, (crashL t.cs t.y U).1, []⟩ : Sp))] = _
                rw [unhide HY])
              clear TK
              go_wp2_with fail
              generalize wr.alloc (.cells #[.string (str nm), .bool false, .slice yp t.y.length yc, .slice up q uc] 120) = V7 at *
              have z0 := fcell (unhide XX) 0 _ rfl
              have z1 := fcell (unhide XX) 1 _ rfl
              have z2 := fcell (unhide XX) 2 _ rfl
              have z3 := fcell (unhide XX) 3 _ rfl
              go_region_law (first
                | (have hU' : W2 = W2 := rfl
                   clear hU'
                   refine step_appendR rfl (.tmp 55) (.tmp 62) rfl base op m oc out rfl (unhide HM) (by exact unhide Oa) W2.heap.size (nm, ⟨⟨true, Y, []⟩, sp2, c2, none, 0⟩) rfl (by exact unhide Xa) (by exact unhide Da) (by omega) (by exact unhide Sa) ?_
                   intro sp9 c9 W9 hO9 hG9
                   have O9 := hide hO9
                   have B9 := hide (show Below w.heap.size w W9 from (unhide Ba).grown hG9.grown (unhide Ba).size (fun g' hg' => unhide HG g' (.inl hg')))
                   have G9 := hide (show ∀ g, footR sp9 (out ++ [(nm, ⟨⟨true, Y, []⟩, sp2, c2, none, 0⟩)]) g → w.heap.size ≤ g from fun g hg => by
                     rcases hg with hg | ⟨z, hz, hg⟩
                     · rcases hG9.lies g hg with h1 | h1
                       · exact unhide HG g (.inl h1)
                       · exact Nat.le_trans (unhide Ba).size h1
                     · rcases List.mem_append.1 hz with hz | hz
                       · exact unhide HG g (.inr ⟨z, hz, hg⟩)
                       · have hz1 := List.mem_singleton.1 hz
                         subst hz1
                         rcases hg with hg | hg
                         · exact unhide La g hg
                         · cases hg)
                   clear hO9 hG9)
                | (go_simp
                   go_at_call 80
                   refine (unhide MC).mono ?_
                   rintro e W2 ⟨sp2, n2, c2, rfl, hn2, hX, b2⟩
                   have hW : n2 = Y.length := hn2.symm
                   subst hW
                   have bV := hide (show Below V7.heap.size V7 W2 from ⟨b2.os, b2.tape, b2.output, b2.size, b2.block⟩)
                   have bA := hide (show Below W2.heap.size W2 (W2.alloc (.cells #[.string (str nm), .bool true, .slice sp2 Y.length c2, .slice none 0 0] 120)) from (Below.refl _ _).alloc (Nat.le_refl _) _)
                   have bVA := hide ((unhide bV).trans ((unhide bA).mono (unhide bV).size))
                   have Ba := hide ((unhide B1).trans ((unhide bVA).mono (unhide B1).size))
                   have Oa := hide ((unhide O1).later (unhide bVA))
                   have Xa := hide (heap_new W2 (.cells #[.string (str nm), .bool true, .slice sp2 Y.length c2, .slice none 0 0] 120))
                   have Sa := hide (Nat.le_trans (unhide HS) (unhide Ba).size)
                   have La := hide (show ∀ g, blk sp2 = some g → w.heap.size ≤ g from fun g hg => Nat.le_trans (unhide B1).size (hX.isT g hg).1)
                   have Da := hide (show RfAt base (W2.alloc (.cells #[.string (str nm), .bool true, .slice sp2 Y.length c2, .slice none 0 0] 120)) (nm, ⟨⟨true, Y, []⟩, sp2, c2, none, 0⟩) from ⟨unhide YOK, (hX.mono (Nat.le_trans (unhide HS) (unhide B1).size)).later (unhide bA), World.ownsRow_nil _ base 131 3, by simp [Sp.us, usL]⟩)
                   have Z1 := (unhide bV).block _ (Array.getElem?_eq_some_iff.1 (unhide XX)).1
                   rw [unhide XX] at Z1
                   have v0 := fcell Z1 0 _ rfl
                   have v1 := fcell Z1 1 _ rfl
                   have v2 := fcell Z1 2 _ rfl
                   have v3 := fcell Z1 3 _ rfl
                   clear hX hn2 b2 Z1))
              all_goals
                go_wp2
                exact ⟨⟨j + 1, m + 1, sp9, c9, out ++ [(nm, ⟨⟨true, Y, []⟩, sp2, c2, none, 0⟩)], by omega, by omega, rfl, by go_num, by rw [List.length_append, unhide HM]; rfl, O9, G9, hide (by
                  rw [unhide TK2, ← unhide HP]
                  simp only [rss, List.map_append, List.map_cons, List.map_nil]), B9⟩, by simp [intOf]; omega⟩
        · have hkU : U = 0 := by omega
          subst hkU
          have yk : (j : Int) < (kn : Int) := by omega
          clear hmax
          cases la with
          | true =>
            have TK2 := hide (show crashS ks 0 (rss (rs.take (j + 1))) = crashS ks 0 (rss (rs.take j)) ++ [(nm, ⟨true, Y, []⟩)] by
              rw [unhide TK]
              unfold crashOne
              rw [if_neg (show ¬ (t.la = false ∧ (crashL t.cs t.y 0).2 = 0) from fun hh => (fun (e : t.la = false ∧ _) => by have := unhide HLA; rw [e.1] at this; cases this) ((crash_gone (unhide OK) 0).1 hh))]
              show _ ++ [(nm, (⟨true, (crashL t.cs t.y 0).1, []⟩ : Sp))] = _
              rw [unhide HY])
            clear TK
            go_wp2_with fail
            generalize wr.alloc (.cells #[.string (str nm), .bool true, .slice yp t.y.length yc, .slice up q uc] 120) = V7 at *
            have z0 := fcell (unhide XX) 0 _ rfl
            have z1 := fcell (unhide XX) 1 _ rfl
            have z2 := fcell (unhide XX) 2 _ rfl
            have z3 := fcell (unhide XX) 3 _ rfl
            go_region_law (first
              | (have hU' : W2 = W2 := rfl
                 clear hU'
                 refine step_appendR rfl (.tmp 55) (.tmp 62) rfl base op m oc out rfl (unhide HM) (by exact unhide Oa) W2.heap.size (nm, ⟨⟨true, Y, []⟩, sp2, c2, none, 0⟩) rfl (by exact unhide Xa) (by exact unhide Da) (by omega) (by exact unhide Sa) ?_
                 intro sp9 c9 W9 hO9 hG9
                 have O9 := hide hO9
                 have B9 := hide (show Below w.heap.size w W9 from (unhide Ba).grown hG9.grown (unhide Ba).size (fun g' hg' => unhide HG g' (.inl hg')))
                 have G9 := hide (show ∀ g, footR sp9 (out ++ [(nm, ⟨⟨true, Y, []⟩, sp2, c2, none, 0⟩)]) g → w.heap.size ≤ g from fun g hg => by
                   rcases hg with hg | ⟨z, hz, hg⟩
                   · rcases hG9.lies g hg with h1 | h1
                     · exact unhide HG g (.inl h1)
                     · exact Nat.le_trans (unhide Ba).size h1
                   · rcases List.mem_append.1 hz with hz | hz
                     · exact unhide HG g (.inr ⟨z, hz, hg⟩)
                     · have hz1 := List.mem_singleton.1 hz
                       subst hz1
                       rcases hg with hg | hg
                       · exact unhide La g hg
                       · cases hg)
                 clear hO9 hG9)
              | (go_simp
                 go_at_call 80
                 refine (unhide MC).mono ?_
                 rintro e W2 ⟨sp2, n2, c2, rfl, hn2, hX, b2⟩
                 have hW : n2 = Y.length := hn2.symm
                 subst hW
                 have bV := hide (show Below V7.heap.size V7 W2 from ⟨b2.os, b2.tape, b2.output, b2.size, b2.block⟩)
                 have bA := hide (show Below W2.heap.size W2 (W2.alloc (.cells #[.string (str nm), .bool true, .slice sp2 Y.length c2, .slice none 0 0] 120)) from (Below.refl _ _).alloc (Nat.le_refl _) _)
                 have bVA := hide ((unhide bV).trans ((unhide bA).mono (unhide bV).size))
                 have Ba := hide ((unhide B1).trans ((unhide bVA).mono (unhide B1).size))
                 have Oa := hide ((unhide O1).later (unhide bVA))
                 have Xa := hide (heap_new W2 (.cells #[.string (str nm), .bool true, .slice sp2 Y.length c2, .slice none 0 0] 120))
                 have Sa := hide (Nat.le_trans (unhide HS) (unhide Ba).size)
                 have La := hide (show ∀ g, blk sp2 = some g → w.heap.size ≤ g from fun g hg => Nat.le_trans (unhide B1).size (hX.isT g hg).1)
                 have Da := hide (show RfAt base (W2.alloc (.cells #[.string (str nm), .bool true, .slice sp2 Y.length c2, .slice none 0 0] 120)) (nm, ⟨⟨true, Y, []⟩, sp2, c2, none, 0⟩) from ⟨unhide YOK, (hX.mono (Nat.le_trans (unhide HS) (unhide B1).size)).later (unhide bA), World.ownsRow_nil _ base 131 3, by simp [Sp.us, usL]⟩)
                 have Z1 := (unhide bV).block _ (Array.getElem?_eq_some_iff.1 (unhide XX)).1
                 rw [unhide XX] at Z1
                 have v0 := fcell Z1 0 _ rfl
                 have v1 := fcell Z1 1 _ rfl
                 have v2 := fcell Z1 2 _ rfl
                 have v3 := fcell Z1 3 _ rfl
                 clear hX hn2 b2 Z1))
            all_goals
              go_wp2
              exact ⟨⟨j + 1, m + 1, sp9, c9, out ++ [(nm, ⟨⟨true, Y, []⟩, sp2, c2, none, 0⟩)], by omega, by omega, rfl, by go_num, by rw [List.length_append, unhide HM]; rfl, O9, G9, hide (by
                rw [unhide TK2, ← unhide HP]
                simp only [rss, List.map_append, List.map_cons, List.map_nil]), B9⟩, by simp [intOf]; omega⟩
          | false =>
            have TK2 := hide (show crashS ks 0 (rss (rs.take (j + 1))) = crashS ks 0 (rss (rs.take j)) by
              rw [unhide TK]
              unfold crashOne
              rw [if_pos (show t.la = false ∧ (crashL t.cs t.y 0).2 = 0 from (crash_gone (unhide OK) 0).2 ⟨unhide HLA, .inl rfl⟩), List.append_nil])
            clear TK MC
            go_wp2
            exact ⟨⟨j + 1, m, op, oc, out, by omega, by omega, rfl, by go_num, unhide HM, unhide O1, unhide HG, by rw [unhide TK2]; exact unhide HP, unhide B1⟩, by simp [intOf]; omega⟩
      · have yk : ¬ (j : Int) < (kn : Int) := by omega
        cases la with
        | true =>
          have TK2 := hide (show crashS ks 0 (rss (rs.take (j + 1))) = crashS ks 0 (rss (rs.take j)) ++ [(nm, ⟨true, Y, []⟩)] by
            rw [unhide TK]
            unfold crashOne
            rw [if_neg (show ¬ (t.la = false ∧ (crashL t.cs t.y 0).2 = 0) from fun hh => (fun (e : t.la = false ∧ _) => by have := unhide HLA; rw [e.1] at this; cases this) ((crash_gone (unhide OK) 0).1 hh))]
            show _ ++ [(nm, (⟨true, (crashL t.cs t.y 0).1, []⟩ : Sp))] = _
            rw [unhide HY])
          clear TK
          go_wp2_with fail
          generalize wr.alloc (.cells #[.string (str nm), .bool true, .slice yp t.y.length yc, .slice up q uc] 120) = V7 at *
          have z0 := fcell (unhide XX) 0 _ rfl
          have z1 := fcell (unhide XX) 1 _ rfl
          have z2 := fcell (unhide XX) 2 _ rfl
          have z3 := fcell (unhide XX) 3 _ rfl
          go_region_law (first
            | (have hU' : W2 = W2 := rfl
               clear hU'
               refine step_appendR rfl (.tmp 55) (.tmp 62) rfl base op m oc out rfl (unhide HM) (by exact unhide Oa) W2.heap.size (nm, ⟨⟨true, Y, []⟩, sp2, c2, none, 0⟩) rfl (by exact unhide Xa) (by exact unhide Da) (by omega) (by exact unhide Sa) ?_
               intro sp9 c9 W9 hO9 hG9
               have O9 := hide hO9
               have B9 := hide (show Below w.heap.size w W9 from (unhide Ba).grown hG9.grown (unhide Ba).size (fun g' hg' => unhide HG g' (.inl hg')))
               have G9 := hide (show ∀ g, footR sp9 (out ++ [(nm, ⟨⟨true, Y, []⟩, sp2, c2, none, 0⟩)]) g → w.heap.size ≤ g from fun g hg => by
                 rcases hg with hg | ⟨z, hz, hg⟩
                 · rcases hG9.lies g hg with h1 | h1
                   · exact unhide HG g (.inl h1)
                   · exact Nat.le_trans (unhide Ba).size h1
                 · rcases List.mem_append.1 hz with hz | hz
                   · exact unhide HG g (.inr ⟨z, hz, hg⟩)
                   · have hz1 := List.mem_singleton.1 hz
                     subst hz1
                     rcases hg with hg | hg
                     · exact unhide La g hg
                     · cases hg)
               clear hO9 hG9)
            | (go_simp
               go_at_call 80
               refine (unhide MC).mono ?_
               rintro e W2 ⟨sp2, n2, c2, rfl, hn2, hX, b2⟩
               have hW : n2 = Y.length := hn2.symm
               subst hW
               have bV := hide (show Below V7.heap.size V7 W2 from ⟨b2.os, b2.tape, b2.output, b2.size, b2.block⟩)
               have bA := hide (show Below W2.heap.size W2 (W2.alloc (.cells #[.string (str nm), .bool true, .slice sp2 Y.length c2, .slice none 0 0] 120)) from (Below.refl _ _).alloc (Nat.le_refl _) _)
               have bVA := hide ((unhide bV).trans ((unhide bA).mono (unhide bV).size))
               have Ba := hide ((unhide B1).trans ((unhide bVA).mono (unhide B1).size))
               have Oa := hide ((unhide O1).later (unhide bVA))
               have Xa := hide (heap_new W2 (.cells #[.string (str nm), .bool true, .slice sp2 Y.length c2, .slice none 0 0] 120))
               have Sa := hide (Nat.le_trans (unhide HS) (unhide Ba).size)
               have La := hide (show ∀ g, blk sp2 = some g → w.heap.size ≤ g from fun g hg => Nat.le_trans (unhide B1).size (hX.isT g hg).1)
               have Da := hide (show RfAt base (W2.alloc (.cells #[.string (str nm), .bool true, .slice sp2 Y.length c2, .slice none 0 0] 120)) (nm, ⟨⟨true, Y, []⟩, sp2, c2, none, 0⟩) from ⟨unhide YOK, (hX.mono (Nat.le_trans (unhide HS) (unhide B1).size)).later (unhide bA), World.ownsRow_nil _ base 131 3, by simp [Sp.us, usL]⟩)
               have Z1 := (unhide bV).block _ (Array.getElem?_eq_some_iff.1 (unhide XX)).1
               rw [unhide XX] at Z1
               have v0 := fcell Z1 0 _ rfl
               have v1 := fcell Z1 1 _ rfl
               have v2 := fcell Z1 2 _ rfl
               have v3 := fcell Z1 3 _ rfl
               clear hX hn2 b2 Z1))
          all_goals
            go_wp2
            exact ⟨⟨j + 1, m + 1, sp9, c9, out ++ [(nm, ⟨⟨true, Y, []⟩, sp2, c2, none, 0⟩)], by omega, by omega, rfl, by go_num, by rw [List.length_append, unhide HM]; rfl, O9, G9, hide (by
              rw [unhide TK2, ← unhide HP]
              simp only [rss, List.map_append, List.map_cons, List.map_nil]), B9⟩, by simp [intOf]; omega⟩
        | false =>
          have TK2 := hide (show crashS ks 0 (rss (rs.take (j + 1))) = crashS ks 0 (rss (rs.take j)) by
            rw [unhide TK]
            unfold crashOne
            rw [if_pos (show t.la = false ∧ (crashL t.cs t.y 0).2 = 0 from (crash_gone (unhide OK) 0).2 ⟨unhide HLA, .inl rfl⟩), List.append_nil])
          clear TK MC
          go_wp2
          exact ⟨⟨j + 1, m, op, oc, out, by omega, by omega, rfl, by go_num, unhide HM, unhide O1, unhide HG, by rw [unhide TK2]; exact unhide HP, unhide B1⟩, by simp [intOf]; omega⟩
    · have y1 : ¬ (j : Int) < (n : Int) := by omega
      have hjr : rs.take j = rs := List.take_of_length_le (by rw [unhide HN]; omega)
      rw [hjr] at HP
      have E3 := hide (unhide EN wr op m oc out (unhide HB) (unhide HO) (unhide HM) (unhide HG) (unhide HP))
      clear hjr
      go_wp2
      go_end0
      exact ⟨rfl, unhide E3⟩
end
end Go.Proofs.YtagncghpfdjkmaaGreatDoor
end
