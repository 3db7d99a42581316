/- The document's disk: Write (written by mkre9.py). -/
import Derived.Test.YtagncghpfdjkmaaGreatDoorB34
namespace Go.Proofs.YtagncghpfdjkmaaGreatDoor
open Go.ChangeShapes Go.WideShapes Go.ChangeAt Go.RowKit Go.Maps

theorem wrote_us (s : Sp) (k : Nat) (o : List Nat) : (wrote s k o).us = s.us ++ unitsOf (false, k, o) := by
  unfold wrote
  split
  · rename_i h
    have : o = [] := List.eq_nil_of_length_eq_zero h
    subst this
    simp [unitsOf]
  · exact usL_snoc _ _
theorem wrote_la (s : Sp) (k : Nat) (o : List Nat) : (wrote s k o).la = s.la ∧ (wrote s k o).y = s.y ∧ (wrote s k o).cs.length ≤ s.cs.length + 1 := by
  unfold wrote
  split
  · exact ⟨rfl, rfl, by omega⟩
  · exact ⟨rfl, rfl, by simp⟩
theorem SOk.wrote {s : Sp} (h : SOk s) (k : Nat) (o : List Nat) (hk : k ≤ s.now.length) (hm : k + o.length ≤ 262144) (hb : ∀ b ∈ o, b < 256) : SOk (wrote s k o) := by
  unfold Go.Proofs.YtagncghpfdjkmaaGreatDoor.wrote
  split
  · exact h
  · rename_i h0
    have h8 : s.now.length ≤ 262144 := by rw [← h.now]; exact h.len _
    refine ⟨fitsC_snoc _ _ _ h.fit hk (by show s.now.length + o.length ≤ _; omega), ?_, h.y8, h.yb, ?_⟩
    · intro c hc
      rcases List.mem_append.1 hc with hc | hc
      · exact h.small c hc
      · obtain rfl : c = (false, k, o) := by simpa using hc
        exact ⟨fun _ => ⟨hm, by show 0 < o.length; omega⟩, fun e => by cases e⟩
    · intro c hc
      rcases List.mem_append.1 hc with hc | hc
      · exact h.cb c hc
      · obtain rfl : c = (false, k, o) := by simpa using hc
        exact hb
theorem SOk.zero : SOk sp0 := ⟨trivial, by simp [sp0], by simp [sp0], by simp [sp0], by simp [sp0]⟩
theorem RfAt.zero (base : Nat) (w : World) (nm : Nm) : RfAt base w (nm, ⟨sp0, none, 0, none, 0⟩) := ⟨SOk.zero, Bx.ofNil _ _, World.ownsRow_nil _ _ _ _, by simp [sp0, Sp.us, usL]⟩
section
variable {base R room : Nat} {w w' : World} {sp : Option Addr} {c : Nat} {rs rs' : List Rf}
set_option maxRecDepth 20000 in
set_option maxHeartbeats 40000000 in
theorem rwrite_old (h : RefAt base w R room sp c rs) (hbs : base ≤ w.heap.size) (s : ByteArray) (hs : s.size ≤ maxLen) (hnl : nameL s.data.toList = true) (i : Nat) (hi : i < rs.length) (he : rs[i].1 = s.data.toList) (z : Int) (hz64 : z ≤ 9223372036854775807) (xp : Option Addr) (xn xc : Nat) (o : List Nat) (ho : o.length = xn) (hB : BytesAt w xp o) (hxl : xn ≤ 1000000) (hcs : ∀ x ∈ rs, x.2.s.cs.length ≤ 300) :
    Calls Tryz.prog 29 #[.pointer (some ⟨R, 0, none⟩), .string s, .int .i64 z, .slice xp xn xc] w (REnd base R room w sp rs (dWrite room s.data.toList z o (rss rs))) := by
  have FC := hide (rfind_calls h s)
  have NB := hide (fun (W : World) => named_calls s W hs)
  have VC := hide (fun W (hb : Below w.heap.size w W) => h.later hb)
  have H := hide h
  have HS := hide hbs
  have h16 := h.few
  have hsl : (rss rs).length = rs.length := by simp [rss]
  have hul : usedS (rss rs) ≤ 4194304 := by
    have key : ∀ l : List Rf, (∀ x ∈ l, x.2.s.now.length ≤ 262144) → usedS (rss l) ≤ l.length * 262144 := by
      intro l
      induction l with
      | nil => intro _; simp [rss, usedS]
      | cons x r ih =>
        intro hl
        have h1 := ih (fun y hy => hl y (List.mem_cons_of_mem _ hy))
        have h2 := hl x List.mem_cons_self
        simp only [rss, usedS, List.map_cons, List.sum_cons, List.length_cons] at h1 ⊢
        omega
    have := key rs (fun x hx => by
      have := (h.own.dat x hx).ok
      rw [← this.now]; exact this.len _)
    exact Nat.le_trans this (Nat.mul_le_mul_right 262144 h.few)
  obtain ⟨g, rfl, p0, p1, p2, p3⟩ := h.own.cells i hi
  have hi0 : ¬ ((i : Int) < 0) := by omega
  have hi1 : (i : Int) < (rs.length : Int) := by omega
  have hi2 : (0 : Int) ≤ (i : Int) := by omega
  have DAT := hide (fun W (hb : Below w.heap.size w W) => (unhide VC W hb).own.dat _ (List.getElem_mem hi))
  have GI := hide (show getS s.data.toList rs = some rs[i].2 by rw [← he]; exact h.getI i hi)
  have FI := hide (show ∀ e, FindEnd rs s.data.toList e → e = .returned (.int .i64 (i : Int)) from fun e hF => by
    rcases hF with ⟨j, hj, hje, rfl⟩ | ⟨hno, _⟩
    · have hij : j = i := by
        have h1 := h.rise.one (List.getElem_mem hj) (List.getElem_mem hi) (hje.trans he.symm)
        have hnd := h.rise.nodup
        have h2 : (rs.map (·.1))[j]'(by simpa using hj) = (rs.map (·.1))[i]'(by simpa using hi) := by rw [List.getElem_map, List.getElem_map, h1]
        exact (List.getElem_inj hnd).1 h2
      rw [hij]
    · exact absurd (he ▸ List.mem_map.2 ⟨_, List.getElem_mem hi, rfl⟩) hno)
  have ZM := hide (List.getElem_mem hi)
  have CL := hide (hcs _ (List.getElem_mem hi))
  have KL := hide (fun (v : RV) => show (putF s.data.toList v rs).length ≤ 16 by
    rw [putF_old_len h.rise (by rw [← he]; exact List.mem_map.2 ⟨_, List.getElem_mem hi, rfl⟩)]; exact h.few)
  generalize rs[i] = x at *
  obtain ⟨nm, t, yp, yc, up, uc⟩ := x
  have hnm : nm = s.data.toList := he
  subst hnm
  simp only [str_of'] at p0
  simp only at p1 p2 p3 DAT GI CL
  have hg0 : (getS s.data.toList (rss rs)).getD sp0 = t := by rw [rss_get, unhide GI]; rfl
  have hgn : (getS s.data.toList (rss rs)).isNone = false := by rw [rss_get, unhide GI]; rfl
  have FT := hide (show ∀ g', Rf.foot (s.data.toList, (⟨t, yp, yc, up, uc⟩ : RV)) g' → footR (some ⟨g, 0, none⟩) rs g' from fun g' hg => .inr ⟨_, unhide ZM, hg⟩)
  have bz : Below w.heap.size w (w.alloc (.cells #[.string s, .bool false, .slice none 0 0, .slice none 0 0] 120)) := (Below.refl _ _).alloc (Nat.le_refl _) _
  have hgl : g < w.heap.size := World.block_lt_of_cell? _ _ p1
  have pz0 := (bz.cell (p := ⟨g, i * 4, none⟩) hgl).trans p0
  have pz1 := (bz.cell (p := ⟨g, i * 4 + 1, none⟩) hgl).trans p1
  have pz2 := (bz.cell (p := ⟨g, i * 4 + 2, none⟩) hgl).trans p2
  have pz3 := (bz.cell (p := ⟨g, i * 4 + 3, none⟩) hgl).trans p3
  have cz1 := (h.later bz).c1
  clear bz hgl p0 p1 p2 p3
  have c1 := h.c1
  have OK := hide (unhide DAT w (Below.refl _ _)).ok
  have hw8 : t.now.length ≤ 262144 := by
    have hh : SOk t := unhide OK
    rw [← hh.now]; exact hh.len _
  have hd : dWrite room s.data.toList z o (rss rs) = if z < 0 ∨ z > t.now.length then (2, rss rs) else if (xn : Int) > 262144 - z then (6, rss rs) else if (usedS (rss rs) : Int) + max (z + xn - t.now.length) 0 > room then (9, rss rs) else (0, putF s.data.toList (wrote t z.toNat o) (rss rs)) := by
    unfold dWrite
    rw [if_neg (by simp [hnl]), hg0, hgn, hsl, ho]
    simp only [Bool.false_eq_true, false_and, false_or]
  obtain ⟨r, hr⟩ : ∃ r, dWrite room s.data.toList z o (rss rs) = r := ⟨_, rfl⟩
  rw [hr] at hd ⊢
  have HD := hide hd
  have ES := hide (fun W (hb : Below w.heap.size w W) (k : Nat) (he : r = (k, rss rs)) => REnd.stay (w := w) (r := r) (e := .returned (.int .i64 (k : Int))) h hb (by rw [he]) (by rw [he]))
  have b1 : Below w.heap.size w (w.alloc (.cells #[.string s, .bool t.la, .slice yp t.y.length yc, .slice up t.us.length uc] 120)) := (Below.refl _ _).alloc (Nat.le_refl _) _
  have hs1 : (w.alloc (.cells #[.string s, .bool t.la, .slice yp t.y.length yc, .slice up t.us.length uc] 120)).heap.size = w.heap.size + 1 := by simp
  have X1 := hide (heap_new w (.cells #[.string s, .bool t.la, .slice yp t.y.length yc, .slice up t.us.length uc] 120))
  have NC := hide (now_calls base (w.alloc (.cells #[.string s, .bool t.la, .slice yp t.y.length yc, .slice up t.us.length uc] 120)) (s.data.toList, ⟨t, yp, yc, up, uc⟩) (unhide DAT _ b1))
  have RC := hide (fun W (hb : Below w.heap.size w W) => show W.cell? ⟨R, 1, none⟩ = some (.slice (some ⟨g, 0, none⟩) rs.length c) ∧ W.frozen? ⟨R, 1, none⟩ = false ∧ W.cell? ⟨R, 0, none⟩ = some (.int .i64 (room : Int)) from ⟨(unhide VC W hb).c1, (unhide VC W hb).z1, (unhide VC W hb).c0⟩)
  have YY := hide (show ∀ (k : Nat), k ≤ t.now.length → k + o.length ≤ 262144 → ∀ W up' uc', Below w.heap.size w W → OwnU (w.heap.size + 1) W up' uc' (t.us ++ unitsOf (false, k, o)) → Calls Tryz.prog 86 #[.slice (some ⟨g, 0, none⟩) rs.length c, .agg #[.string s, .bool t.la, .slice yp t.y.length yc, .slice up' (t.us ++ unitsOf (false, k, o)).length uc']] W fun e w' => ∃ sp' n' c', e = .returned (.slice sp' n' c') ∧ REnd base R room w (some ⟨g, 0, none⟩) rs (0, putF s.data.toList (wrote t k o) (rss rs)) (.returned (.int .i64 0)) (w'.setCell ⟨R, 1, none⟩ (.slice sp' n' c')) ∧ Below w.heap.size w w' from fun k hk hkm  W up' uc' hb hU => by
    have husn := wrote_us t k o
    obtain ⟨wl, wy, wc⟩ := wrote_la t k o
    have hsok := (show SOk t from unhide OK).wrote k o hk hkm hB.lt
    have hle : (t.us ++ unitsOf (false, k, o)).length ≤ 100000000 := by
      rw [← husn]
      have h1 := us_le _ hsok.small
      have h2 : t.cs.length ≤ 300 := unhide CL
      show (usL (wrote t k o).cs).length ≤ _
      omega
    have hsu : Bx base W yp yc t.y := (unhide DAT W hb).sure
    have := h.putS hbs s.data.toList ⟨wrote t k o, yp, yc, up', uc'⟩ W hb ⟨hsok, by show Bx base W yp yc (wrote t k o).y; rw [wy]; exact hsu, by show OwnU base W up' uc' (wrote t k o).us; rw [husn]; exact own_mono hU (by omega), by show (wrote t k o).us.length ≤ _; rw [husn]; exact hle⟩ (unhide KL _) (by
      rintro g' (hg | hg)
      · exact .inl (unhide FT g' (.inl hg))
      · exact .inr (by have := (own_is hU g' hg).1; omega))
    simp only [husn, str_of', wl, wy] at this
    refine this.mono ?_
    rintro e W' ⟨sp', n', c', rfl, hD, hbb⟩
    exact ⟨sp', n', c', rfl, ⟨rfl, _, by rw [rss_put], hD⟩, hbb⟩)
  have UC := hide (fun W (hb : Below w.heap.size w W) => rused_calls (h.later hb).drew)
  have HX1 := hide (show ∀ W, Below (w.heap.size + 1) (w.alloc (.cells #[.string s, .bool t.la, .slice yp t.y.length yc, .slice up t.us.length uc] 120)) W → W.heap[w.heap.size]? = some (.cells #[.string s, .bool t.la, .slice yp t.y.length yc, .slice up t.us.length uc] 120 (0, 0)) from fun W b => (b.block w.heap.size (by omega)).trans (unhide X1))
  have UD := hide (show ∀ W, Below w.heap.size w W → OwnU base W up uc t.us from fun W b => (unhide DAT W b).units)
  have u8 : t.us.length ≤ 100000000 := (unhide DAT w (Below.refl _ _)).few
  have BYT := hide (fun W (hb : Below w.heap.size w W) => hB.later hb)
  have B1 := hide b1
  unfold rfVal at NC
  simp only [str_of'] at NC
  have HO := hide ho
  clear b1 X1 hd hr hg0 hgn h hbs hB ho hsl hs hcs
  obtain ⟨n, hn⟩ : ∃ n, rs.length = n := ⟨_, rfl⟩
  rw [hn] at c1 RC YY h16 hi1 cz1
  clear hn
  go_enter Tryz.func29, Tryz.ntmps29
  go_wp2_with (go_at_call 83; refine (unhide NB _).mono ?_; rintro e w' ⟨rfl, rfl⟩)
  refine (unhide FC).mono ?_
  rintro e w2 ⟨rfl, hF⟩
  obtain rfl := unhide FI _ hF
  clear hF FI FC NB
  go_wp2_with fail
  generalize w2.alloc (.cells #[.string s, .bool t.la, .slice yp t.y.length yc, .slice up t.us.length uc] 120) = V1 at *
  refine (unhide NC).mono ?_
  rintro e V2 ⟨sp2, n2, c2, rfl, hn2, h8, hX2, b2⟩
  rw [hs1] at b2
  have B2 := hide b2
  have BV2 := hide ((unhide B1).trans (b2.mono (by omega)))
  have HN2 := hide (show t.now.length = n2 from hn2)
  have hd2 : r = if z < 0 ∨ z > n2 then (2, rss rs) else if (xn : Int) > 262144 - z then (6, rss rs) else if (usedS (rss rs) : Int) + max (z + xn - n2) 0 > room then (9, rss rs) else (0, putF s.data.toList (wrote t z.toNat o) (rss rs)) := by
    have := unhide HD
    rw [unhide HN2] at this
    exact this
  have HD2 := hide hd2
  obtain ⟨q1, q2, q0⟩ := unhide RC V2 (unhide BV2)
  clear hX2 b2 hn2 hd2 HD NC
  by_cases hA : z < 0 ∨ z > n2
  · have E3 := hide (unhide ES V2 (unhide BV2) 2 (by rw [unhide HD2, if_pos hA]))
    by_cases hz0 : z < 0
    · clear hA
      go_wp2
      go_ret
      exact unhide E3
    · have hz1 : (n2 : Int) < z := by omega
      clear hA
      go_wp2
      go_ret
      exact unhide E3
  · obtain ⟨k, rfl⟩ : ∃ k : Nat, z = (k : Int) := ⟨z.toNat, by omega⟩
    have hk : k ≤ n2 := by omega
    have hz0 : ¬ ((k : Int) < 0) := by omega
    have hz1 : ¬ ((n2 : Int) < (k : Int)) := by omega
    obtain ⟨A, hAe⟩ : ∃ A, k + xn = A := ⟨_, rfl⟩
    have hwr : IntKind.i64.wrap ((k : Int) + (xn : Int)) = (A : Int) := by rw [IntKind.wrap_i64]; omega
    by_cases hg1 : n2 < A
    · have hgi : (n2 : Int) < (A : Int) := by omega
      by_cases hC : 262144 < A
      · have E3 := hide (unhide ES V2 (unhide BV2) 6 (by rw [unhide HD2, if_neg hA, if_pos (by omega)]))
        have hCi : (262144 : Int) < (A : Int) := by omega
        go_wp2
        go_ret
        exact unhide E3
      · have hCd : ¬ ((262144 : Int) < (A : Int)) := by omega
        have hul2 := hul
        generalize hu : usedS (rss rs) = u at hul2
        have HU := hide hu
        clear hu
        have hs1' : IntKind.i64.wrap ((u : Int) - (n2 : Int)) = (u : Int) - (n2 : Int) := by rw [IntKind.wrap_i64]; omega
        have hs2' : IntKind.i64.wrap ((u : Int) - (n2 : Int) + (A : Int)) = (u : Int) - (n2 : Int) + (A : Int) := by rw [IntKind.wrap_i64]; omega
        have UC2 := hide (unhide UC V2 (unhide BV2))
        rw [unhide HU] at UC2
        by_cases hD : (u : Int) - (n2 : Int) + (A : Int) > (room : Int)
        · have hD2 : (room : Int) < (u : Int) - (n2 : Int) + (A : Int) := hD
          have E9 := hide (fun W (hb : Below w2.heap.size w2 W) => unhide ES W hb 9 (by rw [unhide HD2, if_neg hA, if_neg (by omega), unhide HU, if_pos (by omega)]))
          clear hC hD
          go_wp2_with fail
          go_region_held3 (fun w' => w'.cell? ⟨R, 0, none⟩ = some (.int .i64 (room : Int))) (first | go_keep | exact q0 | exact r0) (first
            | (go_at_call 36
               refine (unhide UC2).mono ?_
               rintro e W3 ⟨rfl, b3⟩
               have B3 := hide (show Below w2.heap.size w2 W3 from (unhide BV2).trans (Below.mono ⟨b3.os, b3.tape, b3.output, b3.size, b3.block⟩ (unhide BV2).size))
               obtain ⟨_, _, r0⟩ := unhide RC W3 (unhide B3)
               have E3 := hide (unhide E9 W3 (unhide B3))
               clear b3))
          all_goals
            go_wp2
            go_ret
            exact unhide E3
        · have hD2 : ¬ (room : Int) < (u : Int) - (n2 : Int) + (A : Int) := hD
          have hre : r = (0, putF s.data.toList (wrote t k o) (rss rs)) := by
            rw [unhide HD2, if_neg hA, if_neg (by omega), unhide HU, if_neg (by omega), Int.toNat_natCast]
          have Y2 := hide (unhide YY k (by rw [unhide HN2]; omega) (by rw [unhide HO]; omega))
          rw [← hre] at Y2
          clear hC hD hre
          go_wp2_with fail
          go_region_held3 (fun w' => w'.cell? ⟨R, 0, none⟩ = some (.int .i64 (room : Int))) (first | go_keep | exact q0 | exact r0) (first
            | (go_at_call 36
               refine (unhide UC2).mono ?_
               rintro e W3 ⟨rfl, b3⟩
               have B3 := hide (show Below V2.heap.size V2 W3 from ⟨b3.os, b3.tape, b3.output, b3.size, b3.block⟩)
               obtain ⟨_, _, r0⟩ := unhide RC W3 ((unhide BV2).trans ((unhide B3).mono (unhide BV2).size))
               clear b3))
          all_goals
            have hV2 : w2.heap.size + 1 ≤ V2.heap.size := by have := (unhide B2).size; omega
            have BW3 := hide ((unhide B2).trans ((unhide B3).mono hV2))
            have hW3 : w2.heap.size + 1 ≤ W3.heap.size := Nat.le_trans hV2 (unhide B3).size
            have A3 := hide (show Below W3.heap.size W3 (W3.alloc (.cells #[] 131)) from (Below.refl _ _).alloc (Nat.le_refl _) _)
            have O3 := hide (OwnU.empty W3 (w2.heap.size + 1) hW3)
            have B4 := hide ((unhide BW3).trans ((unhide A3).mono hW3))
            have BV4 := hide ((unhide B1).trans ((unhide B4).mono (by omega)))
            have u3 : (W3.alloc (.cells #[] 131)).cell? ⟨w2.heap.size, 3, none⟩ = some (.slice up t.us.length uc) := fcell (unhide HX1 _ (unhide B4)) 3 _ rfl
            have S3 := hide (unhide UD _ (unhide BV4))
            have u8' := u8
            generalize hnu : t.us.length = nu at u3 u8'
            have HNU := hide hnu
            go_wp2_with (at_builtin; refine wpList_appendU rfl (.tmp 80) (.tmp 82) rfl (w2.heap.size + 1) base (some ⟨W3.heap.size, 0, none⟩) up 0 nu 0 uc [] t.us rfl rfl rfl (unhide HNU) (by exact unhide O3) (by exact unhide S3) (by omega) (by exact Nat.le_trans hW3 (unhide A3).size) ?_; intro sp4 n4 c4 V4 hn4 hO4 hG4; refine unhide ?_)
            refine hide ?_
            rw [List.nil_append] at hn4 hO4
            have B5 := hide (show Below (w2.heap.size + 1) V1 V4 from (unhide B4).grown hG4.grown (by have := (unhide B4).size; omega) (fun g' hg' => by simp [blk] at hg'; omega))
            have O4 := hide hO4
            have hn48 : n4 ≤ 100000000 := by have := unhide hn4; omega
            clear hO4 hG4 u3 O3 S3
            go_wp2_with fail
            go_loopw [13, 14] (fun v i wr => ∃ (j m : Nat) (op : Option Addr) (oc : Nat), j ≤ xn ∧ m ≤ n4 + j ∧ v = .slice op m oc ∧ i = .int .i64 (j : Int) ∧ Hid ((t.us ++ (unitsOf (false, k, o)).take j).length = m) ∧ Hid (OwnU (w2.heap.size + 1) wr op oc (t.us ++ (unitsOf (false, k, o)).take j)) ∧ Hid (Below (w2.heap.size + 1) V1 wr)) (fun _ i _ => xn - (intOf i).toNat)
            case atStart => exact ⟨0, n4, sp4, c4, by omega, by omega, rfl, rfl, by rw [List.take_zero, List.append_nil]; exact hn4, by rw [List.take_zero, List.append_nil]; exact O4, B5⟩
            case round =>
              obtain ⟨j, m, op, oc, hj, hm, rfl, rfl, HM, HW, HB⟩ := hrel
              have BW := hide ((unhide B1).trans ((unhide HB).mono (by omega)))
              by_cases hjn : j < xn
              · have y1 : (j : Int) < (xn : Int) := by omega
                have y0 : (0 : Int) ≤ (j : Int) := by omega
                have hjo : j < o.length := by rw [unhide HO]; exact hjn
                have hul' : (unitsOf (false, k, o)).length = o.length := by rw [unitsOf_length]; rfl
                obtain ⟨bb, off, rfl, p0⟩ := (unhide BYT wr (unhide BW)).cell j hjo
                rw [List.getD_eq_getElem?_getD, List.getElem?_eq_getElem hjo, Option.getD_some] at p0
                have TK := hide (show (unitsOf (false, k, o)).take (j + 1) = (unitsOf (false, k, o)).take j ++ [(false, k + j, o[j])] by
                  rw [List.take_succ_eq_append_getElem (by omega)]
                  congr 2
                  simp only [unitsOf, Bool.false_eq_true, if_false, List.getElem_map, List.getElem_range]
                  rw [List.getD_eq_getElem?_getD, List.getElem?_eq_getElem hjo]
                  rfl)
                have hwk : IntKind.i64.wrap ((k : Int) + (j : Int)) = ((k + j : Nat) : Int) := by rw [IntKind.wrap_i64]; omega
                generalize o[j] = yy at *
                have hWr : w2.heap.size + 1 ≤ wr.heap.size := by have := (unhide HB).size; have := (unhide B2).size; omega
                have A5 := hide (show Below wr.heap.size wr (wr.alloc (.cells #[.bool false, .int .i64 ((k + j : Nat) : Int), .int .u8 (yy : Int)] 131)) from (Below.refl _ _).alloc (Nat.le_refl _) _)
                have O5 := hide (own_same (unhide HW) (fun g hg => (unhide A5).block g (own_is (unhide HW) g hg).2.1))
                have S5 := hide (OwnU.one (false, k + j, yy) (heap_new wr (.cells #[.bool false, .int .i64 ((k + j : Nat) : Int), .int .u8 (yy : Int)] 131)))
                have B6 := hide ((unhide HB).trans ((unhide A5).mono hWr))
                have YB := hide (fun g (hg : blk op = some g) => (own_is (unhide HW) g hg).1)
                clear hul'
                go_wp2_with (at_builtin; refine wpList_appendU rfl (.tmp 90) (.tmp 99) rfl (w2.heap.size + 1) 0 op (some ⟨wr.heap.size, 0, none⟩) m 1 oc 1 (t.us ++ (unitsOf (false, k, o)).take j) [(false, k + j, yy)] rfl rfl (unhide HM) rfl (by exact unhide O5) (by exact unhide S5) (by omega) (by exact Nat.le_trans hWr (unhide A5).size) ?_; intro sp7 n7 c7 V7 hn7 hO7 hG7; refine unhide ?_)
                refine hide ?_
                rw [List.append_assoc, ← unhide TK] at hn7 hO7
                have O7 := hide hO7
                have B7 := hide (show Below (w2.heap.size + 1) V1 V7 from (unhide B6).grown hG7.grown (by have := (unhide B6).size; have := (unhide HB).size; omega) (fun g' hg' => unhide YB g' hg'))
                have hn7b : n7 ≤ m + 1 := by
                  have h1 := unhide hn7
                  have h2 := unhide HM
                  rw [unhide TK] at h1
                  simp only [List.length_append, List.length_cons, List.length_nil] at h1 h2
                  omega
                clear hO7 hG7
                go_wp2
                exact ⟨⟨j + 1, n7, sp7, c7, by omega, by omega, rfl, by go_num, unhide hn7, unhide O7, unhide B7⟩, by simp [intOf]; omega⟩
              · have y1 : ¬ (j : Int) < (xn : Int) := by omega
                have hul' : (unitsOf (false, k, o)).take j = unitsOf (false, k, o) := List.take_of_length_le (by rw [unitsOf_length]; show o.length ≤ j; rw [unhide HO]; omega)
                rw [hul'] at HM HW
                have hX6 := unhide HX1 wr (unhide HB)
                have w3 := fcell hX6 3 _ rfl
                have f3 := ffree hX6 3
                have hX7 : (wr.setCell ⟨w2.heap.size, 3, none⟩ (.slice op m oc)).heap[w2.heap.size]? = some (.cells #[.string s, .bool t.la, .slice yp t.y.length yc, .slice op m oc] 120 (0, 0)) := by
                  rw [heap_setCell_same wr w2.heap.size 3 _ 120 _ hX6]; rfl
                have BV7 := hide (show Below w2.heap.size w2 (wr.setCell ⟨w2.heap.size, 3, none⟩ (.slice op m oc)) from (unhide BW).grown (grown_set wr w2.heap.size 3 _) (unhide BW).size (fun g hg => by have := Option.some.inj hg; omega))
                have O7 := hide (own_same (w' := wr.setCell ⟨w2.heap.size, 3, none⟩ (.slice op m oc)) (unhide HW) (fun g hg => heap_setCell_other _ ⟨w2.heap.size, 3, none⟩ g _ (fun e => by
                  have e2 : g = w2.heap.size := e
                  have := (own_is (unhide HW) g hg).1
                  omega)))
                have x0 := fcell hX7 0 _ rfl
                have x1 := fcell hX7 1 _ rfl
                have x2 := fcell hX7 2 _ rfl
                have x3 := fcell hX7 3 _ rfl
                obtain ⟨r1, r2, _⟩ := unhide RC _ (unhide BV7)
                clear hX6 hX7 hul'
                go_wp2_with fail
                generalize wr.setCell ⟨w2.heap.size, 3, none⟩ (.slice op m oc) = V7 at *
                have UX := hide (show ∀ W, Below V7.heap.size V7 W → Calls Tryz.prog 86 #[.slice (some ⟨g, 0, none⟩) n c, .agg #[.string s, .bool t.la, .slice yp t.y.length yc, .slice op m oc]] W _ from fun W hb => by
                  have hbb := (unhide BV7).trans (hb.mono (unhide BV7).size)
                  have := unhide Y2 W op oc hbb (own_same (unhide O7) (fun g hg => hb.block g (own_is (unhide O7) g hg).2.1))
                  rw [unhide HM] at this
                  exact this)
                go_region_law (go_simp; go_at_call 86; refine (unhide UX V7.drew ((Below.refl _ _).drew)).mono ?_; rintro e W' ⟨sp', n', c', rfl, hE', b3⟩; have E3 := hide hE'; obtain ⟨v1, z1, _⟩ := unhide RC W' b3; clear hE' b3)
                all_goals
                  go_wp2
                  go_ret
                  exact unhide E3
    · have hgi : ¬ (n2 : Int) < (A : Int) := by omega
      by_cases hC : 262144 < n2
      · have E3 := hide (unhide ES V2 (unhide BV2) 6 (by rw [unhide HD2, if_neg hA, if_pos (by omega)]))
        exfalso; omega
      · have hCd : ¬ ((262144 : Int) < (n2 : Int)) := by omega
        have hul2 := hul
        generalize hu : usedS (rss rs) = u at hul2
        have HU := hide hu
        clear hu
        have hs1' : IntKind.i64.wrap ((u : Int) - (n2 : Int)) = (u : Int) - (n2 : Int) := by rw [IntKind.wrap_i64]; omega
        have hs2' : IntKind.i64.wrap ((u : Int)) = (u : Int) := by rw [IntKind.wrap_i64]; omega
        have UC2 := hide (unhide UC V2 (unhide BV2))
        rw [unhide HU] at UC2
        by_cases hD : (u : Int) > (room : Int)
        · have hD2 : (room : Int) < (u : Int) := hD
          have E9 := hide (fun W (hb : Below w2.heap.size w2 W) => unhide ES W hb 9 (by rw [unhide HD2, if_neg hA, if_neg (by omega), unhide HU, if_pos (by omega)]))
          clear hC hD
          go_wp2_with fail
          go_region_held3 (fun w' => w'.cell? ⟨R, 0, none⟩ = some (.int .i64 (room : Int))) (first | go_keep | exact q0 | exact r0) (first
            | (go_at_call 36
               refine (unhide UC2).mono ?_
               rintro e W3 ⟨rfl, b3⟩
               have B3 := hide (show Below w2.heap.size w2 W3 from (unhide BV2).trans (Below.mono ⟨b3.os, b3.tape, b3.output, b3.size, b3.block⟩ (unhide BV2).size))
               obtain ⟨_, _, r0⟩ := unhide RC W3 (unhide B3)
               have E3 := hide (unhide E9 W3 (unhide B3))
               clear b3))
          all_goals
            go_wp2
            go_ret
            exact unhide E3
        · have hD2 : ¬ (room : Int) < (u : Int) := hD
          have hre : r = (0, putF s.data.toList (wrote t k o) (rss rs)) := by
            rw [unhide HD2, if_neg hA, if_neg (by omega), unhide HU, if_neg (by omega), Int.toNat_natCast]
          have Y2 := hide (unhide YY k (by rw [unhide HN2]; omega) (by rw [unhide HO]; omega))
          rw [← hre] at Y2
          clear hC hD hre
          go_wp2_with fail
          go_region_held3 (fun w' => w'.cell? ⟨R, 0, none⟩ = some (.int .i64 (room : Int))) (first | go_keep | exact q0 | exact r0) (first
            | (go_at_call 36
               refine (unhide UC2).mono ?_
               rintro e W3 ⟨rfl, b3⟩
               have B3 := hide (show Below V2.heap.size V2 W3 from ⟨b3.os, b3.tape, b3.output, b3.size, b3.block⟩)
               obtain ⟨_, _, r0⟩ := unhide RC W3 ((unhide BV2).trans ((unhide B3).mono (unhide BV2).size))
               clear b3))
          all_goals
            have hV2 : w2.heap.size + 1 ≤ V2.heap.size := by have := (unhide B2).size; omega
            have BW3 := hide ((unhide B2).trans ((unhide B3).mono hV2))
            have hW3 : w2.heap.size + 1 ≤ W3.heap.size := Nat.le_trans hV2 (unhide B3).size
            have A3 := hide (show Below W3.heap.size W3 (W3.alloc (.cells #[] 131)) from (Below.refl _ _).alloc (Nat.le_refl _) _)
            have O3 := hide (OwnU.empty W3 (w2.heap.size + 1) hW3)
            have B4 := hide ((unhide BW3).trans ((unhide A3).mono hW3))
            have BV4 := hide ((unhide B1).trans ((unhide B4).mono (by omega)))
            have u3 : (W3.alloc (.cells #[] 131)).cell? ⟨w2.heap.size, 3, none⟩ = some (.slice up t.us.length uc) := fcell (unhide HX1 _ (unhide B4)) 3 _ rfl
            have S3 := hide (unhide UD _ (unhide BV4))
            have u8' := u8
            generalize hnu : t.us.length = nu at u3 u8'
            have HNU := hide hnu
            go_wp2_with (at_builtin; refine wpList_appendU rfl (.tmp 80) (.tmp 82) rfl (w2.heap.size + 1) base (some ⟨W3.heap.size, 0, none⟩) up 0 nu 0 uc [] t.us rfl rfl rfl (unhide HNU) (by exact unhide O3) (by exact unhide S3) (by omega) (by exact Nat.le_trans hW3 (unhide A3).size) ?_; intro sp4 n4 c4 V4 hn4 hO4 hG4; refine unhide ?_)
            refine hide ?_
            rw [List.nil_append] at hn4 hO4
            have B5 := hide (show Below (w2.heap.size + 1) V1 V4 from (unhide B4).grown hG4.grown (by have := (unhide B4).size; omega) (fun g' hg' => by simp [blk] at hg'; omega))
            have O4 := hide hO4
            have hn48 : n4 ≤ 100000000 := by have := unhide hn4; omega
            clear hO4 hG4 u3 O3 S3
            go_wp2_with fail
            go_loopw [13, 14] (fun v i wr => ∃ (j m : Nat) (op : Option Addr) (oc : Nat), j ≤ xn ∧ m ≤ n4 + j ∧ v = .slice op m oc ∧ i = .int .i64 (j : Int) ∧ Hid ((t.us ++ (unitsOf (false, k, o)).take j).length = m) ∧ Hid (OwnU (w2.heap.size + 1) wr op oc (t.us ++ (unitsOf (false, k, o)).take j)) ∧ Hid (Below (w2.heap.size + 1) V1 wr)) (fun _ i _ => xn - (intOf i).toNat)
            case atStart => exact ⟨0, n4, sp4, c4, by omega, by omega, rfl, rfl, by rw [List.take_zero, List.append_nil]; exact hn4, by rw [List.take_zero, List.append_nil]; exact O4, B5⟩
            case round =>
              obtain ⟨j, m, op, oc, hj, hm, rfl, rfl, HM, HW, HB⟩ := hrel
              have BW := hide ((unhide B1).trans ((unhide HB).mono (by omega)))
              by_cases hjn : j < xn
              · have y1 : (j : Int) < (xn : Int) := by omega
                have y0 : (0 : Int) ≤ (j : Int) := by omega
                have hjo : j < o.length := by rw [unhide HO]; exact hjn
                have hul' : (unitsOf (false, k, o)).length = o.length := by rw [unitsOf_length]; rfl
                obtain ⟨bb, off, rfl, p0⟩ := (unhide BYT wr (unhide BW)).cell j hjo
                rw [List.getD_eq_getElem?_getD, List.getElem?_eq_getElem hjo, Option.getD_some] at p0
                have TK := hide (show (unitsOf (false, k, o)).take (j + 1) = (unitsOf (false, k, o)).take j ++ [(false, k + j, o[j])] by
                  rw [List.take_succ_eq_append_getElem (by omega)]
                  congr 2
                  simp only [unitsOf, Bool.false_eq_true, if_false, List.getElem_map, List.getElem_range]
                  rw [List.getD_eq_getElem?_getD, List.getElem?_eq_getElem hjo]
                  rfl)
                have hwk : IntKind.i64.wrap ((k : Int) + (j : Int)) = ((k + j : Nat) : Int) := by rw [IntKind.wrap_i64]; omega
                generalize o[j] = yy at *
                have hWr : w2.heap.size + 1 ≤ wr.heap.size := by have := (unhide HB).size; have := (unhide B2).size; omega
                have A5 := hide (show Below wr.heap.size wr (wr.alloc (.cells #[.bool false, .int .i64 ((k + j : Nat) : Int), .int .u8 (yy : Int)] 131)) from (Below.refl _ _).alloc (Nat.le_refl _) _)
                have O5 := hide (own_same (unhide HW) (fun g hg => (unhide A5).block g (own_is (unhide HW) g hg).2.1))
                have S5 := hide (OwnU.one (false, k + j, yy) (heap_new wr (.cells #[.bool false, .int .i64 ((k + j : Nat) : Int), .int .u8 (yy : Int)] 131)))
                have B6 := hide ((unhide HB).trans ((unhide A5).mono hWr))
                have YB := hide (fun g (hg : blk op = some g) => (own_is (unhide HW) g hg).1)
                clear hul'
                go_wp2_with (at_builtin; refine wpList_appendU rfl (.tmp 90) (.tmp 99) rfl (w2.heap.size + 1) 0 op (some ⟨wr.heap.size, 0, none⟩) m 1 oc 1 (t.us ++ (unitsOf (false, k, o)).take j) [(false, k + j, yy)] rfl rfl (unhide HM) rfl (by exact unhide O5) (by exact unhide S5) (by omega) (by exact Nat.le_trans hWr (unhide A5).size) ?_; intro sp7 n7 c7 V7 hn7 hO7 hG7; refine unhide ?_)
                refine hide ?_
                rw [List.append_assoc, ← unhide TK] at hn7 hO7
                have O7 := hide hO7
                have B7 := hide (show Below (w2.heap.size + 1) V1 V7 from (unhide B6).grown hG7.grown (by have := (unhide B6).size; have := (unhide HB).size; omega) (fun g' hg' => unhide YB g' hg'))
                have hn7b : n7 ≤ m + 1 := by
                  have h1 := unhide hn7
                  have h2 := unhide HM
                  rw [unhide TK] at h1
                  simp only [List.length_append, List.length_cons, List.length_nil] at h1 h2
                  omega
                clear hO7 hG7
                go_wp2
                exact ⟨⟨j + 1, n7, sp7, c7, by omega, by omega, rfl, by go_num, unhide hn7, unhide O7, unhide B7⟩, by simp [intOf]; omega⟩
              · have y1 : ¬ (j : Int) < (xn : Int) := by omega
                have hul' : (unitsOf (false, k, o)).take j = unitsOf (false, k, o) := List.take_of_length_le (by rw [unitsOf_length]; show o.length ≤ j; rw [unhide HO]; omega)
                rw [hul'] at HM HW
                have hX6 := unhide HX1 wr (unhide HB)
                have w3 := fcell hX6 3 _ rfl
                have f3 := ffree hX6 3
                have hX7 : (wr.setCell ⟨w2.heap.size, 3, none⟩ (.slice op m oc)).heap[w2.heap.size]? = some (.cells #[.string s, .bool t.la, .slice yp t.y.length yc, .slice op m oc] 120 (0, 0)) := by
                  rw [heap_setCell_same wr w2.heap.size 3 _ 120 _ hX6]; rfl
                have BV7 := hide (show Below w2.heap.size w2 (wr.setCell ⟨w2.heap.size, 3, none⟩ (.slice op m oc)) from (unhide BW).grown (grown_set wr w2.heap.size 3 _) (unhide BW).size (fun g hg => by have := Option.some.inj hg; omega))
                have O7 := hide (own_same (w' := wr.setCell ⟨w2.heap.size, 3, none⟩ (.slice op m oc)) (unhide HW) (fun g hg => heap_setCell_other _ ⟨w2.heap.size, 3, none⟩ g _ (fun e => by
                  have e2 : g = w2.heap.size := e
                  have := (own_is (unhide HW) g hg).1
                  omega)))
                have x0 := fcell hX7 0 _ rfl
                have x1 := fcell hX7 1 _ rfl
                have x2 := fcell hX7 2 _ rfl
                have x3 := fcell hX7 3 _ rfl
                obtain ⟨r1, r2, _⟩ := unhide RC _ (unhide BV7)
                clear hX6 hX7 hul'
                go_wp2_with fail
                generalize wr.setCell ⟨w2.heap.size, 3, none⟩ (.slice op m oc) = V7 at *
                have UX := hide (show ∀ W, Below V7.heap.size V7 W → Calls Tryz.prog 86 #[.slice (some ⟨g, 0, none⟩) n c, .agg #[.string s, .bool t.la, .slice yp t.y.length yc, .slice op m oc]] W _ from fun W hb => by
                  have hbb := (unhide BV7).trans (hb.mono (unhide BV7).size)
                  have := unhide Y2 W op oc hbb (own_same (unhide O7) (fun g hg => hb.block g (own_is (unhide O7) g hg).2.1))
                  rw [unhide HM] at this
                  exact this)
                go_region_law (go_simp; go_at_call 86; refine (unhide UX V7.drew ((Below.refl _ _).drew)).mono ?_; rintro e W' ⟨sp', n', c', rfl, hE', b3⟩; have E3 := hide hE'; obtain ⟨v1, z1, _⟩ := unhide RC W' b3; clear hE' b3)
                all_goals
                  go_wp2
                  go_ret
                  exact unhide E3

set_option maxRecDepth 20000 in
set_option maxHeartbeats 40000000 in
theorem rwrite_new (h : RefAt base w R room sp c rs) (hbs : base ≤ w.heap.size) (s : ByteArray) (hs : s.size ≤ maxLen) (hnl : nameL s.data.toList = true) (hno : s.data.toList ∉ rs.map (·.1)) (z : Int) (hz64 : z ≤ 9223372036854775807) (xp : Option Addr) (xn xc : Nat) (o : List Nat) (ho : o.length = xn) (hB : BytesAt w xp o) (hxl : xn ≤ 1000000) :
    Calls Tryz.prog 29 #[.pointer (some ⟨R, 0, none⟩), .string s, .int .i64 z, .slice xp xn xc] w (REnd base R room w sp rs (dWrite room s.data.toList z o (rss rs))) := by
  have FC := hide (rfind_calls h s)
  have NB := hide (fun (W : World) => named_calls s W hs)
  have VC := hide (fun W (hb : Below w.heap.size w W) => h.later hb)
  have H := hide h
  have HS := hide hbs
  have h16 := h.few
  have hsl : (rss rs).length = rs.length := by simp [rss]
  have hul : usedS (rss rs) ≤ 4194304 := by
    have key : ∀ l : List Rf, (∀ x ∈ l, x.2.s.now.length ≤ 262144) → usedS (rss l) ≤ l.length * 262144 := by
      intro l
      induction l with
      | nil => intro _; simp [rss, usedS]
      | cons x r ih =>
        intro hl
        have h1 := ih (fun y hy => hl y (List.mem_cons_of_mem _ hy))
        have h2 := hl x List.mem_cons_self
        simp only [rss, usedS, List.map_cons, List.sum_cons, List.length_cons] at h1 ⊢
        omega
    have := key rs (fun x hx => by
      have := (h.own.dat x hx).ok
      rw [← this.now]; exact this.len _)
    exact Nat.le_trans this (Nat.mul_le_mul_right 262144 h.few)
  have hi0 : ((-1 : Int) < 0) := by omega
  have FI := hide (show ∀ e, FindEnd rs s.data.toList e → e = .returned (.int .i64 (-1)) from fun e hF => by
    rcases hF with ⟨j, hj, hje, rfl⟩ | ⟨_, rfl⟩
    · exact absurd (hje ▸ List.mem_map.2 ⟨_, List.getElem_mem hj, rfl⟩) hno
    · rfl)
  have GI := getS_none.2 hno
  have DAT := hide (fun W (_ : Below w.heap.size w W) => RfAt.zero base W s.data.toList)
  have hg0 : (getS s.data.toList (rss rs)).getD sp0 = sp0 := by rw [rss_get, GI]; rfl
  have hgn : (getS s.data.toList (rss rs)).isNone = true := by rw [rss_get, GI]; rfl
  have KL := hide (fun (v : RV) => show rs.length < 16 → (putF s.data.toList v rs).length ≤ 16 from fun h15 => by
    rw [putF_length h.rise, if_neg hno]; omega)
  have CL := hide (show sp0.cs.length ≤ 300 by simp [sp0])
  have FT := hide (show ∀ g', Rf.foot (s.data.toList, (⟨sp0, none, 0, none, 0⟩ : RV)) g' → footR sp rs g' from by
    rintro g' (hg | hg)
    · cases hg
    · cases hg)
  have c1 := h.c1
  have OK := hide (unhide DAT w (Below.refl _ _)).ok
  have hw8 : sp0.now.length ≤ 262144 := by
    have hh : SOk sp0 := unhide OK
    rw [← hh.now]; exact hh.len _
  have hd : dWrite room s.data.toList z o (rss rs) = if z < 0 ∨ z > sp0.now.length then (2, rss rs) else if 16 ≤ rs.length ∨ (xn : Int) > 262144 - z then (6, rss rs) else if (usedS (rss rs) : Int) + max (z + xn - sp0.now.length) 0 > room then (9, rss rs) else (0, putF s.data.toList (wrote sp0 z.toNat o) (rss rs)) := by
    unfold dWrite
    rw [if_neg (by simp [hnl]), hg0, hgn, hsl, ho]
    simp only [true_and]
  obtain ⟨r, hr⟩ : ∃ r, dWrite room s.data.toList z o (rss rs) = r := ⟨_, rfl⟩
  rw [hr] at hd ⊢
  have HD := hide hd
  have ES := hide (fun W (hb : Below w.heap.size w W) (k : Nat) (he : r = (k, rss rs)) => REnd.stay (w := w) (r := r) (e := .returned (.int .i64 (k : Int))) h hb (by rw [he]) (by rw [he]))
  have b1 : Below w.heap.size w (w.alloc (.cells #[.string s, .bool false, .slice none 0 0, .slice none 0 0] 120)) := (Below.refl _ _).alloc (Nat.le_refl _) _
  have hs1 : (w.alloc (.cells #[.string s, .bool false, .slice none 0 0, .slice none 0 0] 120)).heap.size = w.heap.size + 1 := by simp
  have X1 := hide (heap_new w (.cells #[.string s, .bool false, .slice none 0 0, .slice none 0 0] 120))
  have NC := hide (now_calls base (w.alloc (.cells #[.string s, .bool false, .slice none 0 0, .slice none 0 0] 120)) (s.data.toList, ⟨sp0, none, 0, none, 0⟩) (unhide DAT _ b1))
  have RC := hide (fun W (hb : Below w.heap.size w W) => show W.cell? ⟨R, 1, none⟩ = some (.slice sp rs.length c) ∧ W.frozen? ⟨R, 1, none⟩ = false ∧ W.cell? ⟨R, 0, none⟩ = some (.int .i64 (room : Int)) from ⟨(unhide VC W hb).c1, (unhide VC W hb).z1, (unhide VC W hb).c0⟩)
  have YY := hide (show ∀ (k : Nat), k ≤ sp0.now.length → k + o.length ≤ 262144 → rs.length < 16 → ∀ W up' uc', Below w.heap.size w W → OwnU (w.heap.size + 1) W up' uc' (sp0.us ++ unitsOf (false, k, o)) → Calls Tryz.prog 86 #[.slice sp rs.length c, .agg #[.string s, .bool false, .slice none 0 0, .slice up' (sp0.us ++ unitsOf (false, k, o)).length uc']] W fun e w' => ∃ sp' n' c', e = .returned (.slice sp' n' c') ∧ REnd base R room w sp rs (0, putF s.data.toList (wrote sp0 k o) (rss rs)) (.returned (.int .i64 0)) (w'.setCell ⟨R, 1, none⟩ (.slice sp' n' c')) ∧ Below w.heap.size w w' from fun k hk hkm h15 W up' uc' hb hU => by
    have husn := wrote_us sp0 k o
    obtain ⟨wl, wy, wc⟩ := wrote_la sp0 k o
    have hsok := (show SOk sp0 from unhide OK).wrote k o hk hkm hB.lt
    have hle : (sp0.us ++ unitsOf (false, k, o)).length ≤ 100000000 := by
      rw [← husn]
      have h1 := us_le _ hsok.small
      have h2 : sp0.cs.length ≤ 300 := unhide CL
      show (usL (wrote sp0 k o).cs).length ≤ _
      omega
    have hsu : Bx base W none 0 sp0.y := (unhide DAT W hb).sure
    have := h.putS hbs s.data.toList ⟨wrote sp0 k o, none, 0, up', uc'⟩ W hb ⟨hsok, by show Bx base W none 0 (wrote sp0 k o).y; rw [wy]; exact hsu, by show OwnU base W up' uc' (wrote sp0 k o).us; rw [husn]; exact own_mono hU (by omega), by show (wrote sp0 k o).us.length ≤ _; rw [husn]; exact hle⟩ (unhide KL _ h15) (by
      rintro g' (hg | hg)
      · exact .inl (unhide FT g' (.inl hg))
      · exact .inr (by have := (own_is hU g' hg).1; omega))
    simp only [husn, str_of', wl, wy] at this
    refine this.mono ?_
    rintro e W' ⟨sp', n', c', rfl, hD, hbb⟩
    exact ⟨sp', n', c', rfl, ⟨rfl, _, by rw [rss_put], hD⟩, hbb⟩)
  have UC := hide (fun W (hb : Below w.heap.size w W) => rused_calls (h.later hb).drew)
  have HX1 := hide (show ∀ W, Below (w.heap.size + 1) (w.alloc (.cells #[.string s, .bool false, .slice none 0 0, .slice none 0 0] 120)) W → W.heap[w.heap.size]? = some (.cells #[.string s, .bool false, .slice none 0 0, .slice none 0 0] 120 (0, 0)) from fun W b => (b.block w.heap.size (by omega)).trans (unhide X1))
  have UD := hide (show ∀ W, Below w.heap.size w W → OwnU base W none 0 sp0.us from fun W b => (unhide DAT W b).units)
  have u8 : sp0.us.length ≤ 100000000 := (unhide DAT w (Below.refl _ _)).few
  have BYT := hide (fun W (hb : Below w.heap.size w W) => hB.later hb)
  have B1 := hide b1
  unfold rfVal at NC
  simp only [str_of'] at NC
  have HO := hide ho
  clear b1 X1 hd hr hg0 hgn h hbs hB ho hsl hs hno GI
  obtain ⟨n, hn⟩ : ∃ n, rs.length = n := ⟨_, rfl⟩
  rw [hn] at c1 RC YY h16 HD
  clear hn
  go_enter Tryz.func29, Tryz.ntmps29
  go_wp2_with (go_at_call 83; refine (unhide NB _).mono ?_; rintro e w' ⟨rfl, rfl⟩)
  refine (unhide FC).mono ?_
  rintro e w2 ⟨rfl, hF⟩
  obtain rfl := unhide FI _ hF
  clear hF FI FC NB
  go_wp2_with fail
  generalize w2.alloc (.cells #[.string s, .bool false, .slice none 0 0, .slice none 0 0] 120) = V1 at *
  refine (unhide NC).mono ?_
  rintro e V2 ⟨sp2, n2, c2, rfl, hn2, h8, hX2, b2⟩
  rw [hs1] at b2
  have B2 := hide b2
  have BV2 := hide ((unhide B1).trans (b2.mono (by omega)))
  have HN2 := hide (show sp0.now.length = n2 from hn2)
  have hd2 : r = if z < 0 ∨ z > n2 then (2, rss rs) else if 16 ≤ n ∨ (xn : Int) > 262144 - z then (6, rss rs) else if (usedS (rss rs) : Int) + max (z + xn - n2) 0 > room then (9, rss rs) else (0, putF s.data.toList (wrote sp0 z.toNat o) (rss rs)) := by
    have := unhide HD
    rw [unhide HN2] at this
    exact this
  have HD2 := hide hd2
  obtain ⟨q1, q2, q0⟩ := unhide RC V2 (unhide BV2)
  clear hX2 b2 hn2 hd2 HD NC
  by_cases hA : z < 0 ∨ z > n2
  · have E3 := hide (unhide ES V2 (unhide BV2) 2 (by rw [unhide HD2, if_pos hA]))
    by_cases hz0 : z < 0
    · clear hA
      go_wp2
      go_ret
      exact unhide E3
    · have hz1 : (n2 : Int) < z := by omega
      clear hA
      go_wp2
      go_ret
      exact unhide E3
  · obtain ⟨k, rfl⟩ : ∃ k : Nat, z = (k : Int) := ⟨z.toNat, by omega⟩
    have hk : k ≤ n2 := by omega
    have hz0 : ¬ ((k : Int) < 0) := by omega
    have hz1 : ¬ ((n2 : Int) < (k : Int)) := by omega
    obtain ⟨A, hAe⟩ : ∃ A, k + xn = A := ⟨_, rfl⟩
    have hwr : IntKind.i64.wrap ((k : Int) + (xn : Int)) = (A : Int) := by rw [IntKind.wrap_i64]; omega
    by_cases hg1 : n2 < A
    · have hgi : (n2 : Int) < (A : Int) := by omega
      by_cases hC : 16 ≤ n ∨ 262144 < A
      · have E3 := hide (unhide ES V2 (unhide BV2) 6 (by rw [unhide HD2, if_neg hA, if_pos (by omega)]))
        by_cases h16n : 16 ≤ n
        · have h16i : (16 : Int) ≤ (n : Int) := by omega
          go_wp2
          go_ret
          exact unhide E3
        · have h16i : ¬ (16 : Int) ≤ (n : Int) := by omega
          have hCi : (262144 : Int) < (A : Int) := by omega
          go_wp2
          go_ret
          exact unhide E3
      · have hCd : ¬ ((262144 : Int) < (A : Int)) := by omega
        have h15 : ¬ (16 : Int) ≤ (n : Int) := by omega
        have hul2 := hul
        generalize hu : usedS (rss rs) = u at hul2
        have HU := hide hu
        clear hu
        have hs1' : IntKind.i64.wrap ((u : Int) - (n2 : Int)) = (u : Int) - (n2 : Int) := by rw [IntKind.wrap_i64]; omega
        have hs2' : IntKind.i64.wrap ((u : Int) - (n2 : Int) + (A : Int)) = (u : Int) - (n2 : Int) + (A : Int) := by rw [IntKind.wrap_i64]; omega
        have UC2 := hide (unhide UC V2 (unhide BV2))
        rw [unhide HU] at UC2
        by_cases hD : (u : Int) - (n2 : Int) + (A : Int) > (room : Int)
        · have hD2 : (room : Int) < (u : Int) - (n2 : Int) + (A : Int) := hD
          have E9 := hide (fun W (hb : Below w2.heap.size w2 W) => unhide ES W hb 9 (by rw [unhide HD2, if_neg hA, if_neg (by omega), unhide HU, if_pos (by omega)]))
          clear hC hD
          go_wp2_with fail
          go_region_held3 (fun w' => w'.cell? ⟨R, 0, none⟩ = some (.int .i64 (room : Int))) (first | go_keep | exact q0 | exact r0) (first
            | (go_at_call 36
               refine (unhide UC2).mono ?_
               rintro e W3 ⟨rfl, b3⟩
               have B3 := hide (show Below w2.heap.size w2 W3 from (unhide BV2).trans (Below.mono ⟨b3.os, b3.tape, b3.output, b3.size, b3.block⟩ (unhide BV2).size))
               obtain ⟨_, _, r0⟩ := unhide RC W3 (unhide B3)
               have E3 := hide (unhide E9 W3 (unhide B3))
               clear b3))
          all_goals
            go_wp2
            go_ret
            exact unhide E3
        · have hD2 : ¬ (room : Int) < (u : Int) - (n2 : Int) + (A : Int) := hD
          have hre : r = (0, putF s.data.toList (wrote sp0 k o) (rss rs)) := by
            rw [unhide HD2, if_neg hA, if_neg (by omega), unhide HU, if_neg (by omega), Int.toNat_natCast]
          have Y2 := hide (unhide YY k (by rw [unhide HN2]; omega) (by rw [unhide HO]; omega) (by omega))
          rw [← hre] at Y2
          clear hC hD hre
          go_wp2_with fail
          go_region_held3 (fun w' => w'.cell? ⟨R, 0, none⟩ = some (.int .i64 (room : Int))) (first | go_keep | exact q0 | exact r0) (first
            | (go_at_call 36
               refine (unhide UC2).mono ?_
               rintro e W3 ⟨rfl, b3⟩
               have B3 := hide (show Below V2.heap.size V2 W3 from ⟨b3.os, b3.tape, b3.output, b3.size, b3.block⟩)
               obtain ⟨_, _, r0⟩ := unhide RC W3 ((unhide BV2).trans ((unhide B3).mono (unhide BV2).size))
               clear b3))
          all_goals
            have hV2 : w2.heap.size + 1 ≤ V2.heap.size := by have := (unhide B2).size; omega
            have BW3 := hide ((unhide B2).trans ((unhide B3).mono hV2))
            have hW3 : w2.heap.size + 1 ≤ W3.heap.size := Nat.le_trans hV2 (unhide B3).size
            have A3 := hide (show Below W3.heap.size W3 (W3.alloc (.cells #[] 131)) from (Below.refl _ _).alloc (Nat.le_refl _) _)
            have O3 := hide (OwnU.empty W3 (w2.heap.size + 1) hW3)
            have B4 := hide ((unhide BW3).trans ((unhide A3).mono hW3))
            have BV4 := hide ((unhide B1).trans ((unhide B4).mono (by omega)))
            have u3 : (W3.alloc (.cells #[] 131)).cell? ⟨w2.heap.size, 3, none⟩ = some (.slice none 0 0) := fcell (unhide HX1 _ (unhide B4)) 3 _ rfl
            have S3 := hide (unhide UD _ (unhide BV4))
            go_wp2_with (at_builtin; refine wpList_appendU rfl (.tmp 80) (.tmp 82) rfl (w2.heap.size + 1) base (some ⟨W3.heap.size, 0, none⟩) none 0 0 0 0 [] sp0.us rfl rfl rfl (rfl) (by exact unhide O3) (by exact unhide S3) (by omega) (by exact Nat.le_trans hW3 (unhide A3).size) ?_; intro sp4 n4 c4 V4 hn4 hO4 hG4; refine unhide ?_)
            refine hide ?_
            rw [List.nil_append] at hn4 hO4
            have B5 := hide (show Below (w2.heap.size + 1) V1 V4 from (unhide B4).grown hG4.grown (by have := (unhide B4).size; omega) (fun g' hg' => by simp [blk] at hg'; omega))
            have O4 := hide hO4
            have hn48 : n4 ≤ 100000000 := by have := unhide hn4; simp [sp0, Sp.us, usL] at this; omega
            clear hO4 hG4 u3 O3 S3
            go_wp2_with fail
            go_loopw [13, 14] (fun v i wr => ∃ (j m : Nat) (op : Option Addr) (oc : Nat), j ≤ xn ∧ m ≤ n4 + j ∧ v = .slice op m oc ∧ i = .int .i64 (j : Int) ∧ Hid ((sp0.us ++ (unitsOf (false, k, o)).take j).length = m) ∧ Hid (OwnU (w2.heap.size + 1) wr op oc (sp0.us ++ (unitsOf (false, k, o)).take j)) ∧ Hid (Below (w2.heap.size + 1) V1 wr)) (fun _ i _ => xn - (intOf i).toNat)
            case atStart => exact ⟨0, n4, sp4, c4, by omega, by omega, rfl, rfl, by rw [List.take_zero, List.append_nil]; exact hn4, by rw [List.take_zero, List.append_nil]; exact O4, B5⟩
            case round =>
              obtain ⟨j, m, op, oc, hj, hm, rfl, rfl, HM, HW, HB⟩ := hrel
              have BW := hide ((unhide B1).trans ((unhide HB).mono (by omega)))
              by_cases hjn : j < xn
              · have y1 : (j : Int) < (xn : Int) := by omega
                have y0 : (0 : Int) ≤ (j : Int) := by omega
                have hjo : j < o.length := by rw [unhide HO]; exact hjn
                have hul' : (unitsOf (false, k, o)).length = o.length := by rw [unitsOf_length]; rfl
                obtain ⟨bb, off, rfl, p0⟩ := (unhide BYT wr (unhide BW)).cell j hjo
                rw [List.getD_eq_getElem?_getD, List.getElem?_eq_getElem hjo, Option.getD_some] at p0
                have TK := hide (show (unitsOf (false, k, o)).take (j + 1) = (unitsOf (false, k, o)).take j ++ [(false, k + j, o[j])] by
                  rw [List.take_succ_eq_append_getElem (by omega)]
                  congr 2
                  simp only [unitsOf, Bool.false_eq_true, if_false, List.getElem_map, List.getElem_range]
                  rw [List.getD_eq_getElem?_getD, List.getElem?_eq_getElem hjo]
                  rfl)
                have hwk : IntKind.i64.wrap ((k : Int) + (j : Int)) = ((k + j : Nat) : Int) := by rw [IntKind.wrap_i64]; omega
                generalize o[j] = yy at *
                have hWr : w2.heap.size + 1 ≤ wr.heap.size := by have := (unhide HB).size; have := (unhide B2).size; omega
                have A5 := hide (show Below wr.heap.size wr (wr.alloc (.cells #[.bool false, .int .i64 ((k + j : Nat) : Int), .int .u8 (yy : Int)] 131)) from (Below.refl _ _).alloc (Nat.le_refl _) _)
                have O5 := hide (own_same (unhide HW) (fun g hg => (unhide A5).block g (own_is (unhide HW) g hg).2.1))
                have S5 := hide (OwnU.one (false, k + j, yy) (heap_new wr (.cells #[.bool false, .int .i64 ((k + j : Nat) : Int), .int .u8 (yy : Int)] 131)))
                have B6 := hide ((unhide HB).trans ((unhide A5).mono hWr))
                have YB := hide (fun g (hg : blk op = some g) => (own_is (unhide HW) g hg).1)
                clear hul'
                go_wp2_with (at_builtin; refine wpList_appendU rfl (.tmp 90) (.tmp 99) rfl (w2.heap.size + 1) 0 op (some ⟨wr.heap.size, 0, none⟩) m 1 oc 1 (sp0.us ++ (unitsOf (false, k, o)).take j) [(false, k + j, yy)] rfl rfl (unhide HM) rfl (by exact unhide O5) (by exact unhide S5) (by omega) (by exact Nat.le_trans hWr (unhide A5).size) ?_; intro sp7 n7 c7 V7 hn7 hO7 hG7; refine unhide ?_)
                refine hide ?_
                rw [List.append_assoc, ← unhide TK] at hn7 hO7
                have O7 := hide hO7
                have B7 := hide (show Below (w2.heap.size + 1) V1 V7 from (unhide B6).grown hG7.grown (by have := (unhide B6).size; have := (unhide HB).size; omega) (fun g' hg' => unhide YB g' hg'))
                have hn7b : n7 ≤ m + 1 := by
                  have h1 := unhide hn7
                  have h2 := unhide HM
                  rw [unhide TK] at h1
                  simp only [List.length_append, List.length_cons, List.length_nil] at h1 h2
                  omega
                clear hO7 hG7
                go_wp2
                exact ⟨⟨j + 1, n7, sp7, c7, by omega, by omega, rfl, by go_num, unhide hn7, unhide O7, unhide B7⟩, by simp [intOf]; omega⟩
              · have y1 : ¬ (j : Int) < (xn : Int) := by omega
                have hul' : (unitsOf (false, k, o)).take j = unitsOf (false, k, o) := List.take_of_length_le (by rw [unitsOf_length]; show o.length ≤ j; rw [unhide HO]; omega)
                rw [hul'] at HM HW
                have hX6 := unhide HX1 wr (unhide HB)
                have w3 := fcell hX6 3 _ rfl
                have f3 := ffree hX6 3
                have hX7 : (wr.setCell ⟨w2.heap.size, 3, none⟩ (.slice op m oc)).heap[w2.heap.size]? = some (.cells #[.string s, .bool false, .slice none 0 0, .slice op m oc] 120 (0, 0)) := by
                  rw [heap_setCell_same wr w2.heap.size 3 _ 120 _ hX6]; rfl
                have BV7 := hide (show Below w2.heap.size w2 (wr.setCell ⟨w2.heap.size, 3, none⟩ (.slice op m oc)) from (unhide BW).grown (grown_set wr w2.heap.size 3 _) (unhide BW).size (fun g hg => by have := Option.some.inj hg; omega))
                have O7 := hide (own_same (w' := wr.setCell ⟨w2.heap.size, 3, none⟩ (.slice op m oc)) (unhide HW) (fun g hg => heap_setCell_other _ ⟨w2.heap.size, 3, none⟩ g _ (fun e => by
                  have e2 : g = w2.heap.size := e
                  have := (own_is (unhide HW) g hg).1
                  omega)))
                have x0 := fcell hX7 0 _ rfl
                have x1 := fcell hX7 1 _ rfl
                have x2 := fcell hX7 2 _ rfl
                have x3 := fcell hX7 3 _ rfl
                obtain ⟨r1, r2, _⟩ := unhide RC _ (unhide BV7)
                clear hX6 hX7 hul'
                go_wp2_with fail
                generalize wr.setCell ⟨w2.heap.size, 3, none⟩ (.slice op m oc) = V7 at *
                have UX := hide (show ∀ W, Below V7.heap.size V7 W → Calls Tryz.prog 86 #[.slice sp n c, .agg #[.string s, .bool false, .slice none 0 0, .slice op m oc]] W _ from fun W hb => by
                  have hbb := (unhide BV7).trans (hb.mono (unhide BV7).size)
                  have := unhide Y2 W op oc hbb (own_same (unhide O7) (fun g hg => hb.block g (own_is (unhide O7) g hg).2.1))
                  rw [unhide HM] at this
                  exact this)
                go_region_law (go_simp; go_at_call 86; refine (unhide UX V7.drew ((Below.refl _ _).drew)).mono ?_; rintro e W' ⟨sp', n', c', rfl, hE', b3⟩; have E3 := hide hE'; obtain ⟨v1, z1, _⟩ := unhide RC W' b3; clear hE' b3)
                all_goals
                  go_wp2
                  go_ret
                  exact unhide E3
    · have hgi : ¬ (n2 : Int) < (A : Int) := by omega
      by_cases hC : 16 ≤ n ∨ 262144 < n2
      · have E3 := hide (unhide ES V2 (unhide BV2) 6 (by rw [unhide HD2, if_neg hA, if_pos (by omega)]))
        by_cases h16n : 16 ≤ n
        · have h16i : (16 : Int) ≤ (n : Int) := by omega
          go_wp2
          go_ret
          exact unhide E3
        · exfalso; omega
      · have hCd : ¬ ((262144 : Int) < (n2 : Int)) := by omega
        have h15 : ¬ (16 : Int) ≤ (n : Int) := by omega
        have hul2 := hul
        generalize hu : usedS (rss rs) = u at hul2
        have HU := hide hu
        clear hu
        have hs1' : IntKind.i64.wrap ((u : Int) - (n2 : Int)) = (u : Int) - (n2 : Int) := by rw [IntKind.wrap_i64]; omega
        have hs2' : IntKind.i64.wrap ((u : Int)) = (u : Int) := by rw [IntKind.wrap_i64]; omega
        have UC2 := hide (unhide UC V2 (unhide BV2))
        rw [unhide HU] at UC2
        by_cases hD : (u : Int) > (room : Int)
        · have hD2 : (room : Int) < (u : Int) := hD
          have E9 := hide (fun W (hb : Below w2.heap.size w2 W) => unhide ES W hb 9 (by rw [unhide HD2, if_neg hA, if_neg (by omega), unhide HU, if_pos (by omega)]))
          clear hC hD
          go_wp2_with fail
          go_region_held3 (fun w' => w'.cell? ⟨R, 0, none⟩ = some (.int .i64 (room : Int))) (first | go_keep | exact q0 | exact r0) (first
            | (go_at_call 36
               refine (unhide UC2).mono ?_
               rintro e W3 ⟨rfl, b3⟩
               have B3 := hide (show Below w2.heap.size w2 W3 from (unhide BV2).trans (Below.mono ⟨b3.os, b3.tape, b3.output, b3.size, b3.block⟩ (unhide BV2).size))
               obtain ⟨_, _, r0⟩ := unhide RC W3 (unhide B3)
               have E3 := hide (unhide E9 W3 (unhide B3))
               clear b3))
          all_goals
            go_wp2
            go_ret
            exact unhide E3
        · have hD2 : ¬ (room : Int) < (u : Int) := hD
          have hre : r = (0, putF s.data.toList (wrote sp0 k o) (rss rs)) := by
            rw [unhide HD2, if_neg hA, if_neg (by omega), unhide HU, if_neg (by omega), Int.toNat_natCast]
          have Y2 := hide (unhide YY k (by rw [unhide HN2]; omega) (by rw [unhide HO]; omega) (by omega))
          rw [← hre] at Y2
          clear hC hD hre
          go_wp2_with fail
          go_region_held3 (fun w' => w'.cell? ⟨R, 0, none⟩ = some (.int .i64 (room : Int))) (first | go_keep | exact q0 | exact r0) (first
            | (go_at_call 36
               refine (unhide UC2).mono ?_
               rintro e W3 ⟨rfl, b3⟩
               have B3 := hide (show Below V2.heap.size V2 W3 from ⟨b3.os, b3.tape, b3.output, b3.size, b3.block⟩)
               obtain ⟨_, _, r0⟩ := unhide RC W3 ((unhide BV2).trans ((unhide B3).mono (unhide BV2).size))
               clear b3))
          all_goals
            have hV2 : w2.heap.size + 1 ≤ V2.heap.size := by have := (unhide B2).size; omega
            have BW3 := hide ((unhide B2).trans ((unhide B3).mono hV2))
            have hW3 : w2.heap.size + 1 ≤ W3.heap.size := Nat.le_trans hV2 (unhide B3).size
            have A3 := hide (show Below W3.heap.size W3 (W3.alloc (.cells #[] 131)) from (Below.refl _ _).alloc (Nat.le_refl _) _)
            have O3 := hide (OwnU.empty W3 (w2.heap.size + 1) hW3)
            have B4 := hide ((unhide BW3).trans ((unhide A3).mono hW3))
            have BV4 := hide ((unhide B1).trans ((unhide B4).mono (by omega)))
            have u3 : (W3.alloc (.cells #[] 131)).cell? ⟨w2.heap.size, 3, none⟩ = some (.slice none 0 0) := fcell (unhide HX1 _ (unhide B4)) 3 _ rfl
            have S3 := hide (unhide UD _ (unhide BV4))
            go_wp2_with (at_builtin; refine wpList_appendU rfl (.tmp 80) (.tmp 82) rfl (w2.heap.size + 1) base (some ⟨W3.heap.size, 0, none⟩) none 0 0 0 0 [] sp0.us rfl rfl rfl (rfl) (by exact unhide O3) (by exact unhide S3) (by omega) (by exact Nat.le_trans hW3 (unhide A3).size) ?_; intro sp4 n4 c4 V4 hn4 hO4 hG4; refine unhide ?_)
            refine hide ?_
            rw [List.nil_append] at hn4 hO4
            have B5 := hide (show Below (w2.heap.size + 1) V1 V4 from (unhide B4).grown hG4.grown (by have := (unhide B4).size; omega) (fun g' hg' => by simp [blk] at hg'; omega))
            have O4 := hide hO4
            have hn48 : n4 ≤ 100000000 := by have := unhide hn4; simp [sp0, Sp.us, usL] at this; omega
            clear hO4 hG4 u3 O3 S3
            go_wp2_with fail
            go_loopw [13, 14] (fun v i wr => ∃ (j m : Nat) (op : Option Addr) (oc : Nat), j ≤ xn ∧ m ≤ n4 + j ∧ v = .slice op m oc ∧ i = .int .i64 (j : Int) ∧ Hid ((sp0.us ++ (unitsOf (false, k, o)).take j).length = m) ∧ Hid (OwnU (w2.heap.size + 1) wr op oc (sp0.us ++ (unitsOf (false, k, o)).take j)) ∧ Hid (Below (w2.heap.size + 1) V1 wr)) (fun _ i _ => xn - (intOf i).toNat)
            case atStart => exact ⟨0, n4, sp4, c4, by omega, by omega, rfl, rfl, by rw [List.take_zero, List.append_nil]; exact hn4, by rw [List.take_zero, List.append_nil]; exact O4, B5⟩
            case round =>
              obtain ⟨j, m, op, oc, hj, hm, rfl, rfl, HM, HW, HB⟩ := hrel
              have BW := hide ((unhide B1).trans ((unhide HB).mono (by omega)))
              by_cases hjn : j < xn
              · have y1 : (j : Int) < (xn : Int) := by omega
                have y0 : (0 : Int) ≤ (j : Int) := by omega
                have hjo : j < o.length := by rw [unhide HO]; exact hjn
                have hul' : (unitsOf (false, k, o)).length = o.length := by rw [unitsOf_length]; rfl
                obtain ⟨bb, off, rfl, p0⟩ := (unhide BYT wr (unhide BW)).cell j hjo
                rw [List.getD_eq_getElem?_getD, List.getElem?_eq_getElem hjo, Option.getD_some] at p0
                have TK := hide (show (unitsOf (false, k, o)).take (j + 1) = (unitsOf (false, k, o)).take j ++ [(false, k + j, o[j])] by
                  rw [List.take_succ_eq_append_getElem (by omega)]
                  congr 2
                  simp only [unitsOf, Bool.false_eq_true, if_false, List.getElem_map, List.getElem_range]
                  rw [List.getD_eq_getElem?_getD, List.getElem?_eq_getElem hjo]
                  rfl)
                have hwk : IntKind.i64.wrap ((k : Int) + (j : Int)) = ((k + j : Nat) : Int) := by rw [IntKind.wrap_i64]; omega
                generalize o[j] = yy at *
                have hWr : w2.heap.size + 1 ≤ wr.heap.size := by have := (unhide HB).size; have := (unhide B2).size; omega
                have A5 := hide (show Below wr.heap.size wr (wr.alloc (.cells #[.bool false, .int .i64 ((k + j : Nat) : Int), .int .u8 (yy : Int)] 131)) from (Below.refl _ _).alloc (Nat.le_refl _) _)
                have O5 := hide (own_same (unhide HW) (fun g hg => (unhide A5).block g (own_is (unhide HW) g hg).2.1))
                have S5 := hide (OwnU.one (false, k + j, yy) (heap_new wr (.cells #[.bool false, .int .i64 ((k + j : Nat) : Int), .int .u8 (yy : Int)] 131)))
                have B6 := hide ((unhide HB).trans ((unhide A5).mono hWr))
                have YB := hide (fun g (hg : blk op = some g) => (own_is (unhide HW) g hg).1)
                clear hul'
                go_wp2_with (at_builtin; refine wpList_appendU rfl (.tmp 90) (.tmp 99) rfl (w2.heap.size + 1) 0 op (some ⟨wr.heap.size, 0, none⟩) m 1 oc 1 (sp0.us ++ (unitsOf (false, k, o)).take j) [(false, k + j, yy)] rfl rfl (unhide HM) rfl (by exact unhide O5) (by exact unhide S5) (by omega) (by exact Nat.le_trans hWr (unhide A5).size) ?_; intro sp7 n7 c7 V7 hn7 hO7 hG7; refine unhide ?_)
                refine hide ?_
                rw [List.append_assoc, ← unhide TK] at hn7 hO7
                have O7 := hide hO7
                have B7 := hide (show Below (w2.heap.size + 1) V1 V7 from (unhide B6).grown hG7.grown (by have := (unhide B6).size; have := (unhide HB).size; omega) (fun g' hg' => unhide YB g' hg'))
                have hn7b : n7 ≤ m + 1 := by
                  have h1 := unhide hn7
                  have h2 := unhide HM
                  rw [unhide TK] at h1
                  simp only [List.length_append, List.length_cons, List.length_nil] at h1 h2
                  omega
                clear hO7 hG7
                go_wp2
                exact ⟨⟨j + 1, n7, sp7, c7, by omega, by omega, rfl, by go_num, unhide hn7, unhide O7, unhide B7⟩, by simp [intOf]; omega⟩
              · have y1 : ¬ (j : Int) < (xn : Int) := by omega
                have hul' : (unitsOf (false, k, o)).take j = unitsOf (false, k, o) := List.take_of_length_le (by rw [unitsOf_length]; show o.length ≤ j; rw [unhide HO]; omega)
                rw [hul'] at HM HW
                have hX6 := unhide HX1 wr (unhide HB)
                have w3 := fcell hX6 3 _ rfl
                have f3 := ffree hX6 3
                have hX7 : (wr.setCell ⟨w2.heap.size, 3, none⟩ (.slice op m oc)).heap[w2.heap.size]? = some (.cells #[.string s, .bool false, .slice none 0 0, .slice op m oc] 120 (0, 0)) := by
                  rw [heap_setCell_same wr w2.heap.size 3 _ 120 _ hX6]; rfl
                have BV7 := hide (show Below w2.heap.size w2 (wr.setCell ⟨w2.heap.size, 3, none⟩ (.slice op m oc)) from (unhide BW).grown (grown_set wr w2.heap.size 3 _) (unhide BW).size (fun g hg => by have := Option.some.inj hg; omega))
                have O7 := hide (own_same (w' := wr.setCell ⟨w2.heap.size, 3, none⟩ (.slice op m oc)) (unhide HW) (fun g hg => heap_setCell_other _ ⟨w2.heap.size, 3, none⟩ g _ (fun e => by
                  have e2 : g = w2.heap.size := e
                  have := (own_is (unhide HW) g hg).1
                  omega)))
                have x0 := fcell hX7 0 _ rfl
                have x1 := fcell hX7 1 _ rfl
                have x2 := fcell hX7 2 _ rfl
                have x3 := fcell hX7 3 _ rfl
                obtain ⟨r1, r2, _⟩ := unhide RC _ (unhide BV7)
                clear hX6 hX7 hul'
                go_wp2_with fail
                generalize wr.setCell ⟨w2.heap.size, 3, none⟩ (.slice op m oc) = V7 at *
                have UX := hide (show ∀ W, Below V7.heap.size V7 W → Calls Tryz.prog 86 #[.slice sp n c, .agg #[.string s, .bool false, .slice none 0 0, .slice op m oc]] W _ from fun W hb => by
                  have hbb := (unhide BV7).trans (hb.mono (unhide BV7).size)
                  have := unhide Y2 W op oc hbb (own_same (unhide O7) (fun g hg => hb.block g (own_is (unhide O7) g hg).2.1))
                  rw [unhide HM] at this
                  exact this)
                go_region_law (go_simp; go_at_call 86; refine (unhide UX V7.drew ((Below.refl _ _).drew)).mono ?_; rintro e W' ⟨sp', n', c', rfl, hE', b3⟩; have E3 := hide hE'; obtain ⟨v1, z1, _⟩ := unhide RC W' b3; clear hE' b3)
                all_goals
                  go_wp2
                  go_ret
                  exact unhide E3

end
end Go.Proofs.YtagncghpfdjkmaaGreatDoor
