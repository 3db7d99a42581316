/- Proved: what is taken is what was sent, byte for byte and link by link, once for each time that it was put under way; for all deeds (the first 400 are played); no condition. -/
import Derived.Test.YticemhnfcelpmaaTkn
import Derived.Test.YticemhnfcelpmaaFl12
import Derived.Test.YticemhnfcelpmaaDarg
import Derived.Deep.RegionHeld3
namespace Go.Proofs.Yticemhnfcelpmaa.flightTaken
open Go.ChangeShapes Go.WideShapes Go.ChangeAt Go.RowKit
set_option linter.unusedVariables false

theorem own : ownKnob Try.prog.godebug = none := by kernel_rfl
theorem laidOut : laidOutB Try.prog = true := by kernel_rfl

abbrev dB (kd f t i : Int) (dp : Option Addr) (m dc : Nat) : Obj := .cells #[.int .i64 kd, .int .i64 f, .int .i64 t, .int .i64 i, .slice dp m dc] 30 (0, 0)
theorem dB_cells {w : World} {D : Nat} {kd f t i : Int} {dp : Option Addr} {m dc : Nat} (h : w.heap[D]? = some (dB kd f t i dp m dc)) : w.cell? ⟨D, 0, none⟩ = some (.int .i64 kd) ∧ w.cell? ⟨D, 1, none⟩ = some (.int .i64 f) ∧ w.cell? ⟨D, 2, none⟩ = some (.int .i64 t) ∧ w.cell? ⟨D, 3, none⟩ = some (.int .i64 i) ∧ w.cell? ⟨D, 4, none⟩ = some (.slice dp m dc) :=
  ⟨box_cell h 0 _ rfl, box_cell h 1 _ rfl, box_cell h 2 _ rfl, box_cell h 3 _ rfl, box_cell h 4 _ rfl⟩
/-- What the law holds: the net, what was put, what was taken. -/
structure TkAt (base : Nat) (w : World) (N M K : Nat) (sp : Option Addr) (c : Nat) (xs ps : List (Pkt × Hdl)) (T : List Int) (age : Nat) : Prop where
  ex : ∃ n sn cn tn, NetAt base w N M n sn cn xs (ps.length : Int) (fun _ _ => false) (List.replicate 9 0) ∧ TallyAt w K tn T (fun _ => 1) ∧ tn ≤ age ∧ ∀ g, blk sp = some g → blk sn ≠ some g
  put : PutAt base w sp c ps
  inv : TkInv xs ps T
  ne : M ≠ K
  few : ps.length ≤ age
  lowK : base ≤ K
theorem TkAt.later {base : Nat} {w w' : World} {N M K : Nat} {sp : Option Addr} {c : Nat} {xs ps : List (Pkt × Hdl)} {T : List Int} {age : Nat} (h : TkAt base w N M K sp c xs ps T age) (hb : Below w.heap.size w w') : TkAt base w' N M K sp c xs ps T age := by
  obtain ⟨n, sn, cn, tn, h1, h2, h3, h4⟩ := h.ex
  exact ⟨⟨n, sn, cn, tn, h1.later hb, h2.later hb, h3, h4⟩, h.put.later hb, h.inv, h.ne, h.few, h.lowK⟩
theorem TkAt.older {base : Nat} {w : World} {N M K : Nat} {sp : Option Addr} {c : Nat} {xs ps : List (Pkt × Hdl)} {T : List Int} {age : Nat} (h : TkAt base w N M K sp c xs ps T age) : TkAt base w N M K sp c xs ps T (age + 1) := by
  obtain ⟨n, sn, cn, tn, h1, h2, h3, h4⟩ := h.ex
  exact ⟨⟨n, sn, cn, tn, h1, h2, by omega, h4⟩, h.put, h.inv, h.ne, by have := h.few; omega, h.lowK⟩
/-- A step of the net, and one more is put. -/
theorem TkAt.appended {base : Nat} {W4 W5 : World} {N M K n : Nat} {sn : Option Addr} {cn tn : Nat} {sp : Option Addr} {c : Nat} {xs ps : List (Pkt × Hdl)} {T : List Int} {age : Nat} {f t : Int} {l : List Nat} {hd hd' : Hdl} {sp5 : Option Addr} {c5 : Nat}
    (hn : NetAt base W4 N M n sn cn (xs ++ [(((ps.length : Int) + 1, f, t, l), hd)]) ((ps.length : Int) + 1) (fun _ _ => false) (List.replicate 9 0)) (hk : TallyAt W4 K tn T (fun _ => 1)) (htn : tn ≤ age) (ap : ∀ g, blk sp = some g → blk sn ≠ some g) (hp : PutAt base W4 sp c ps) (inv : TkInv xs ps T) (ne : M ≠ K) (few : ps.length ≤ age) (lowK : base ≤ K) (hl : l.length ≤ 65536)
    (hp5 : PutAt base W5 sp5 c5 (ps ++ [(((ps.length : Int) + 1, f, t, l), hd')])) (hg5 : W4.grownBy W5 (blk sp)) (hl5 : ∀ g, blk sp5 = some g → blk sp = some g ∨ W4.heap.size ≤ g) :
    TkAt base W5 N M K sp5 c5 (xs ++ [(((ps.length : Int) + 1, f, t, l), hd)]) (ps ++ [(((ps.length : Int) + 1, f, t, l), hd')]) T (age + 1) := by
  obtain ⟨es, k, hK⟩ := hk.isMap
  have e : ((ps ++ [(((ps.length : Int) + 1, f, t, l), hd')]).length : Int) = (ps.length : Int) + 1 := by simp
  refine ⟨⟨n, sn, cn, tn, ?_, hk.kept hg5 (fun e => ?_), by omega, fun g hg hs => ?_⟩, hp5, inv.put f t l hd hd' hl, ne, by simp; omega, lowK⟩
  · rw [e]
    exact netAside hn hp ap hg5
  · obtain ⟨_, cur, hc⟩ := hp.blk_is K e.symm
    rw [hK] at hc
    simp at hc
  · rcases hl5 g hg with h | h
    · exact ap g h hs
    · have := (hn.own.blk_ge g hs).2
      omega
theorem OwnB.ngrew {base : Nat} {w w' : World} {N M n : Nat} {sn sn' : Option Addr} {cn : Nat} {xs : List (Pkt × Hdl)} {last : Int} {S : Int → Int → Bool} {ck : List Int} {b : Nat} {a : Option Addr} {k : Nat} {l : List Nat} (h : OwnB b w a k l) (hn : NetAt base w N M n sn cn xs last S ck) (g : NGrew N M w sn w' sn') : OwnB b w' a k l := by
  obtain ⟨es, q, hM⟩ := hn.isMap
  refine ⟨⟨h.owns.1, ?_⟩, h.lt⟩
  rcases h.owns.2 with hv | ⟨g1, cap, cur, hv, hbg, hgg, r⟩
  · exact .inl hv
  · refine .inr ⟨g1, cap, cur, hv, hbg, (g.block g1 (Array.getElem?_eq_some_iff.1 hgg).1 (fun e => ?_) (fun e => ?_) (fun e => ?_)).trans hgg, r⟩
    · rw [e, hn.blk] at hgg; simp at hgg
    · rw [e, hM] at hgg; simp at hgg
    · obtain ⟨cu, hcu⟩ := hn.own.blk_is g1 e.symm
      rw [hcu] at hgg; simp at hgg
theorem has_nat {xs : List (Pkt × Hdl)} {i : Int} (h : hasP xs i = true) : ∃ k : Nat, i = (k : Int) ∧ k < xs.length := by
  simp only [hasP, Bool.and_eq_true, decide_eq_true_eq] at h
  exact ⟨i.toNat, by omega, by omega⟩
theorem upd_one (x : Int) : upd (fun _ => 1) x 1 = fun _ => 1 := by funext y; simp [upd]
theorem xs_few {xs ps : List (Pkt × Hdl)} {T : List Int} (h : TkInv xs ps T) : xs.length ≤ ps.length := by have := h.len; omega
set_option maxRecDepth 20000 in
set_option maxHeartbeats 8000000 in
theorem walk (a : Option Addr) (c : Nat) (es : List DeedI) (w : World) (hx : es.length ≤ maxLen) (hD : DeedsAt w a es) (hbd : ∀ e ∈ es, DeedBd e) :
    Calls Try.prog 3 #[.slice a es.length c] w fun e w' => e = .returned (.bool true) ∧ Below w.heap.size w w' := by
  have hmm := @run_makeMap Try.prog
  have HD := hide hD
  have HB := hide hbd
  clear hD hbd
  generalize hn : es.length = n at *
  have HN := hide hn
  clear hn
  go_enter Try.func3, Try.ntmps3
  go_wp2_with fail
  refine (new_calls _).mono ?_
  rintro e W1 ⟨N, M, rfl, h1, b1⟩
  have bK : Below W1.heap.size W1 (W1.alloc (.map #[] 0)) := (Below.refl _ _).alloc (Nat.le_refl _) _
  have T2 := hide (show TkAt w.heap.size (W1.alloc (.map #[] 0)) N M W1.heap.size none 0 [] [] [] 0 from
    ⟨⟨0, none, 0, 0, h1.later bK, by
      obtain ⟨D, r⟩ := (TallyAt.made W1).map
      exact ⟨D, r.1, r.2.1, by simp, r.2.2.2⟩, Nat.le_refl _, fun g hg => by cases hg⟩, PutAt.ofNil _ _, TkInv.nil, fun e => by have := h1.ltM; omega, Nat.le_refl _, b1.size⟩)
  have F2 := hide (b1.trans (bK.mono b1.size))
  generalize hK : W1.heap.size = K at *
  clear h1 b1 bK
  go_wp2_with fail
  generalize W1.alloc (.map #[] 0) = W2 at *
  go_loopw [4, 6] (fun vp v wr => ∃ (j L : Nat) (sp : Option Addr) (cp : Nat) (xs ps : List (Pkt × Hdl)) (T : List Int), j ≤ min n 400 ∧ v = .int .i64 (j : Int) ∧ vp = .slice sp L cp ∧ Hid (ps.length = L) ∧ Hid (TkAt w.heap.size wr N M K sp cp xs ps T j) ∧ Hid (Below w.heap.size w wr)) (fun _ v _ => min n 400 - (intOf v).toNat)
  case atStart => exact ⟨0, 0, none, 0, [], [], [], by omega, rfl, rfl, rfl, unhide T2, unhide F2⟩
  case round =>
    obtain ⟨j, L, sp, cp, xs, ps, T, hj, rfl, rfl, hL, TK, F⟩ := hrel
    clear T2 F2
    go_wp2_with fail
    refine (many_calls a n c _ hx).mono ?_
    rintro e wr' ⟨rfl, rfl⟩
    by_cases hjm : j < min n 400
    · have hjn : j < es.length := by rw [unhide HN]; omega
      obtain ⟨b, off, dp, dc, rfl, q0, q1, q2, q3, q4, pb, pz⟩ := (unhide HD).cell j hjn
      have p0 := cell_later (unhide F) q0
      have p1 := cell_later (unhide F) q1
      have p2 := cell_later (unhide F) q2
      have p3 := cell_later (unhide F) q3
      have p4 := cell_later (unhide F) q4
      clear q0 q1 q2 q3 q4
      have hE := hide (unhide HB es[j] (List.getElem_mem hjn))
      have hj0 : (0 : Int) ≤ (j : Int) := by omega
      have hj1 : (j : Int) < (n : Int) := by omega
      have hj2 : (j : Int) < ((min n 400 : Nat) : Int) := by omega
      have hL4 := hide (show L ≤ 400 by rw [← unhide hL]; have := (unhide TK).few; omega)
      generalize es[j] = d at *
      obtain ⟨kd, f, t, i, l⟩ := d
      simp only at p0 p1 p2 p3 p4 pb
      have PB := hide pb
      have PZ := hide pz
      clear pb pz
      have bD := hide (show Below wr'.heap.size wr' (wr'.alloc (dB kd f t i dp l.length dc)) from (Below.refl _ _).alloc (Nat.le_refl _) _)
      have XD := hide (heap_new wr' (dB kd f t i dp l.length dc))
      have TD := hide ((unhide TK).later (unhide bD))
      have FD := hide ((unhide F).trans ((unhide bD).mono (unhide F).size))
      obtain ⟨c0, c1, c2, c3, c4⟩ := dB_cells (unhide XD)
      by_cases k0 : kd = 0
      · subst k0
        obtain ⟨nn, sn, cn, tn, h1, h2, h3, h4⟩ := (unhide TK).ex
        have H1 := hide h1
        have H1D := hide (h1.later (unhide bD))
        have H2D := hide (h2.later (unhide bD))
        have H4 := hide h4
        have hbb := hide (unhide TK).put
        have INV := hide (unhide TK).inv
        clear h1 h2 h4
        by_cases hx0 : sendX (fun _ _ => false) xs.length f t l.length = 0
        · have hl6 := hide (sendX_zero hx0).2.1
          go_wp2_with fail
          refine (send_fresh (unhide H1D) f t (unhide hE).2.1 (unhide hE).2.2.1 dp l.length dc l rfl ((unhide PB).later (unhide FD)) (fun b' off' h0 e => by have := block_lt (unhide PB) h0 b' off' e; have := (unhide H1D).lowN; omega) (unhide PZ) (by omega) (by have := unhide hL4; have := unhide hL; omega) hx0).mono ?_
          rintro e W3 ⟨rfl, sn3, cn3, hd3, n3, g3, _⟩
          have N3 := hide n3
          have XD3 := hide (g3.newer (unhide H1) (Nat.le_refl _) (unhide XD))
          have P3 := hide (((unhide hbb).later (unhide bD)).ngrew (unhide H1D) g3 (unhide H4))
          have K3 := hide (show TallyAt W3 K tn T (fun _ => 1) from by
            obtain ⟨es', k', hK'⟩ := (unhide H2D).isMap
            exact (unhide H2D).same (g3.otherMap (unhide H1D) hK' (unhide TK).ne))
          have F3 := hide ((unhide FD).trans ((unhide H1D).below g3))
          have A3 := hide (show ∀ g, blk sp = some g → blk sn3 ≠ some g from fun g hg hs => by
            rcases g3.lies g hs with h5 | h5
            · exact unhide H4 g hg h5
            · obtain ⟨_, cur, hc⟩ := ((unhide hbb).later (unhide bD)).blk_is g hg
              have := (Array.getElem?_eq_some_iff.1 hc).1
              omega)
          clear n3 g3 c0 c1 c2 c3 c4
          obtain ⟨c0, c1, c2, c3, c4⟩ := dB_cells (unhide XD3)
          have b4 := hide (show Below W3.heap.size W3 (W3.alloc (.cells #[.int .i64 ((ps.length : Int) + 1), .int .i64 f, .int .i64 t, .slice dp l.length dc] 35)) from (Below.refl _ _).alloc (Nat.le_refl _) _)
          have X4 := hide (heap_new W3 (.cells #[.int .i64 ((ps.length : Int) + 1), .int .i64 f, .int .i64 t, .slice dp l.length dc] 35))
          have P4 := hide ((unhide P3).later (unhide b4))
          have F4 := hide ((unhide F3).trans ((unhide b4).mono (unhide F3).size))
          have B4 := hide ((unhide PB).later (unhide F4))
          go_wp2_with (at_builtin; refine wpList_appendQ rfl (.tmp 45) (.tmp 54) rfl L rfl (unhide hL) (by exact unhide P4) W3.heap.size (((ps.length : Int) + 1, f, t, l), (dp, dc)) rfl (by exact unhide X4) (by exact unhide B4) (fun b' off' h0 e => .inl (block_lt (unhide PB) h0 b' off' e)) (by have := unhide hL4; have := unhide hL; omega) (by exact (unhide F4).size) ?_; intro sp5 c5 W5 hp5 hg5 hl5; have HP5 := hide hp5; have HG5 := hide hg5; have HL5 := hide hl5; clear hp5 hg5 hl5)
          have T5 := hide (TkAt.appended ((unhide N3).later (unhide b4)) ((unhide K3).later (unhide b4)) h3 (unhide A3) (unhide P4) (unhide INV) (unhide TK).ne (unhide TK).few (unhide TK).lowK (unhide hl6) (unhide HP5) (unhide HG5) (unhide HL5))
          have L5 := hide (show (ps ++ [(((ps.length : Int) + 1, f, t, l), (dp, dc))]).length = L + 1 by rw [List.length_append, unhide hL]; rfl)
          have F5 := hide ((unhide F4).grown (unhide HG5) (unhide F4).size (fun g hg => ((unhide P4).blk_is g hg).1))
          exact ⟨⟨j + 1, L + 1, sp5, c5, _, _, T, by omega, by go_num, rfl, unhide L5, unhide T5, unhide F5⟩, by simp [intOf]; omega⟩
        · go_wp2_with fail
          refine (send_no (unhide H1D) f t (unhide hE).2.1 (unhide hE).2.2.1 dp l.length dc hx0).mono ?_
          rintro e W3 ⟨rfl, b3⟩
          have T3 := hide ((unhide TD).later b3).older
          have F3 := hide ((unhide FD).trans (b3.mono (unhide FD).size))
          have hx1 : ¬ ((sendX (fun _ _ => false) xs.length f t l.length : Nat) : Int) = 0 := by omega
          generalize ((sendX (fun _ _ => false) xs.length f t l.length : Nat) : Int) = q at *
          clear b3
          go_wp2
          exact ⟨⟨j + 1, L, sp, cp, xs, ps, T, by omega, by go_num, rfl, unhide hL, unhide T3, unhide F3⟩, by simp [intOf]; omega⟩
      by_cases k1 : kd = 1
      · subst k1
        obtain ⟨nn, sn, cn, tn, h1, h2, h3, h4⟩ := (unhide TK).ex
        have H1 := hide h1
        have H1D := hide (h1.later (unhide bD))
        have H2D := hide (h2.later (unhide bD))
        have H4 := hide h4
        have hbb := hide (unhide TK).put
        have INV := hide (unhide TK).inv
        clear h1 h2 h4
        cases hi : hasP xs i
        · go_wp2_with fail
          refine (take_no (unhide H1D) i hi).mono ?_
          rintro e W3 ⟨rfl, b3⟩
          have b4 := hide (show Below W3.heap.size W3 (W3.alloc (.cells #[.int .i64 0, .int .i64 0, .int .i64 0, .slice none 0 0] 35)) from (Below.refl _ _).alloc (Nat.le_refl _) _)
          have T3 := hide (((unhide TD).later b3).later (unhide b4)).older
          have F3 := hide (((unhide FD).trans (b3.mono (unhide FD).size)).trans ((unhide b4).mono ((unhide FD).trans (b3.mono (unhide FD).size)).size))
          clear b3
          go_wp2
          exact ⟨⟨j + 1, L, sp, cp, xs, ps, T, by omega, by go_num, rfl, unhide hL, unhide T3, unhide F3⟩, by simp [intOf]; omega⟩
        · obtain ⟨i', rfl, hi'⟩ := has_nat hi
          have hfew := xs_few (unhide INV)
          obtain ⟨inv2, hnot, k, hk, hid, hpk⟩ := (unhide INV).take i' hi'
          have INV2 := hide inv2
          have hkL : k < L := by rw [← unhide hL]; exact hk
          have OX := hide ((unhide H1D).own.dat.own _ (List.getElem_mem hi')).1
          go_wp2_with fail
          refine (take_yes (unhide H1D) i' hi' (by have := unhide hL4; have := unhide hL; omega)).mono ?_
          rintro e W3 ⟨rfl, n3, g3⟩
          have N3 := hide n3
          have P3 := hide (((unhide hbb).later (unhide bD)).ngrew (unhide H1D) g3 (unhide H4))
          have K3 := hide (show TallyAt W3 K tn T (fun _ => 1) from by
            obtain ⟨es', k', hK'⟩ := (unhide H2D).isMap
            exact (unhide H2D).same (g3.otherMap (unhide H1D) hK' (unhide TK).ne))
          have F3 := hide ((unhide FD).trans ((unhide H1D).below g3))
          have O3 := hide (OwnB.ngrew (unhide OX) (unhide H1D) g3)
          clear n3 g3 c0 c1 c2 c3 c4 inv2 OX
          generalize xs[i']'hi' = x at *
          obtain ⟨⟨id, fx, tx, lx⟩, hx1, hx2⟩ := x
          simp only at hid hpk hnot O3 N3 INV2
          have b4 := hide (show Below W3.heap.size W3 (W3.alloc (.cells #[.int .i64 id, .int .i64 fx, .int .i64 tx, .slice hx1 lx.length hx2] 35)) from (Below.refl _ _).alloc (Nat.le_refl _) _)
          have X4 := hide (heap_new W3 (.cells #[.int .i64 id, .int .i64 fx, .int .i64 tx, .slice hx1 lx.length hx2] 35))
          have N4 := hide ((unhide N3).later (unhide b4))
          have P4 := hide ((unhide P3).later (unhide b4))
          have K4 := hide ((unhide K3).later (unhide b4))
          have O4 := hide ((unhide O3).later (unhide b4))
          have F4 := hide ((unhide F3).trans ((unhide b4).mono (unhide F3).size))
          have h64 : In64 id := by have := unhide hL4; constructor <;> omega
          have hlk := (unhide K4).look id h64
          rw [if_neg hnot] at hlk
          obtain ⟨W5, hst, t5, g5⟩ := (unhide K4).store id 1 h64 (by constructor <;> decide) (by simp only [maxLen]; have := unhide hL4; have := (unhide TK).few; omega)
          rw [if_neg hnot, upd_one] at t5
          have K5 := hide t5
          have G5 := hide g5
          have hKK := hide (show ∃ es' k', (W3.alloc (.cells #[.int .i64 id, .int .i64 fx, .int .i64 tx, .slice hx1 lx.length hx2] 35)).heap[K]? = some (.map es' k') from (unhide K4).isMap)
          have X5 := hide (grown_block g5 (unhide X4) (fun e => by obtain ⟨es', k', hK'⟩ := unhide hKK; rw [← e, unhide X4] at hK'; simp at hK'))
          have P5 := hide (show PutAt w.heap.size W5 sp cp ps from by obtain ⟨es', k', hK'⟩ := unhide hKK; exact (unhide P4).map hK' (unhide TK).lowK g5)
          have N5 := hide (show NetAt w.heap.size W5 N M nn sn cn (keep (sameId id) xs) (ps.length : Int) (fun _ _ => false) (List.replicate 9 0) from by obtain ⟨es', k', hK'⟩ := unhide hKK; exact netAsideMap (unhide N4) hK' (unhide TK).ne g5)
          have F5 := hide ((unhide F4).grown g5 (unhide F4).size (fun g hg => by have := Option.some.inj hg; have := (unhide TK).lowK; omega))
          have B5 := hide (show BytesAt W5 hx1 lx from ((unhide O4).grownNe g5 (fun g hg e => by obtain ⟨es', k', hK'⟩ := unhide hKK; obtain rfl := Option.some.inj e; exact (unhide O4).ne_map hK' hg)).bytes)
          have hlk5 := (unhide K5).look id h64
          rw [if_pos (by simp)] at hlk5
          obtain ⟨g, hsp, r0, r1, r2, r3⟩ := (unhide P5).cell k hk
          have Q5 := hide ((unhide P5).dat _ (List.getElem_mem hk)).1
          rw [hpk] at r0 r1 r2 r3 Q5
          generalize (ps[k]'hk).2 = hp at *
          obtain ⟨hp1, hp2⟩ := hp
          simp only at r0 r1 r2 r3 Q5
          obtain ⟨x0, x1, x2, x3⟩ := pkB_cells (unhide X5)
          have hidk : IntKind.i64.wrap (id - 1) = (k : Int) := by have := unhide hL4; rw [IntKind.wrap_i64, hid]; omega
          have hid0 : decide (id < 1) = false := decide_eq_false (by omega)
          have hid1 : decide ((L : Int) < id) = false := decide_eq_false (by omega)
          have hk0 : (0 : Int) ≤ (k : Int) := by omega
          have hk1 : (k : Int) < (L : Int) := by omega
          have TKP := hide (show TkAt w.heap.size W5 N M K sp cp (keep (sameId id) xs) ps (T ++ [id]) (j + 1) from ⟨⟨nn, sn, cn, tn + 1, unhide N5, unhide K5, by omega, unhide H4⟩, unhide P5, unhide INV2, (unhide TK).ne, by have := (unhide TK).few; omega, (unhide TK).lowK⟩)
          clear t5 g5 N3 P3 K3 O3 F3 N4 P4 O4 F4 X4 N5 hnot hpk INV2 hKK hid
          subst hsp
          go_wp2_with fail
          go_region_held3 (fun w' => w'.cell? ⟨W3.heap.size, 0, none⟩ = some (.int .i64 id) ∧ w'.cell? ⟨W3.heap.size, 1, none⟩ = some (.int .i64 fx) ∧ w'.cell? ⟨W3.heap.size, 2, none⟩ = some (.int .i64 tx) ∧ w'.cell? ⟨W3.heap.size, 3, none⟩ = some (.slice hx1 lx.length hx2) ∧ w'.cell? ⟨g, k * 4, none⟩ = some (.int .i64 id) ∧ w'.cell? ⟨g, k * 4 + 1, none⟩ = some (.int .i64 fx) ∧ w'.cell? ⟨g, k * 4 + 2, none⟩ = some (.int .i64 tx) ∧ w'.cell? ⟨g, k * 4 + 3, none⟩ = some (.slice hp1 lx.length hp2) ∧ (Instr.lookup 26 (.map (some K)) (.int .i64 id) false).run Try.prog w' = .ok (.int .i64 1) w')
            (first
              | exact ⟨x0, x1, x2, x3, r0, r1, r2, r3, hlk5⟩
              | exact ⟨x0, x1, x2, x3, r0, r1, r2, r3, by have := (unhide K5).drewT.look id h64; rwa [if_pos (by simp)] at this⟩
              | exact ⟨cell_later hb1 x0, cell_later hb1 x1, cell_later hb1 x2, cell_later hb1 x3, cell_later hb1 r0, cell_later hb1 r1, cell_later hb1 r2, cell_later hb1 r3, by have := ((unhide K5).later (show Below W5.heap.size W5 W6 from ⟨hb1.os, hb1.tape, hb1.output, hb1.size, hb1.block⟩)).look id h64; rwa [if_pos (by simp)] at this⟩)
            (first
              | (go_at_call 9; refine (samePacket_yes id fx tx hx1 hp1 lx.length lx.length hx2 hp2 lx _ rfl rfl (by first | exact unhide B5 | exact (unhide B5).drew) (by first | exact unhide Q5 | exact (unhide Q5).drew)).mono ?_; rintro e W6 ⟨rfl, hb1⟩))
          have b6 : Below W5.heap.size W5 W6 := ⟨hb1.os, hb1.tape, hb1.output, hb1.size, hb1.block⟩
          have T6 := hide ((unhide TKP).later b6)
          have F6 := hide ((unhide F5).trans (b6.mono (unhide F5).size))
          clear hb1 b6
          go_wp2
          exact ⟨⟨j + 1, L, _, cp, _, ps, _, by omega, by go_num, rfl, unhide hL, unhide T6, unhide F6⟩, by simp [intOf]; omega⟩
      by_cases k2 : kd = 2
      · subst k2
        obtain ⟨nn, sn, cn, tn, h1, h2, h3, h4⟩ := (unhide TK).ex
        have H1 := hide h1
        have H1D := hide (h1.later (unhide bD))
        have H2D := hide (h2.later (unhide bD))
        have H4 := hide h4
        have hbb := hide (unhide TK).put
        have INV := hide (unhide TK).inv
        have hfew := xs_few (unhide INV)
        have hps := (unhide TK).few
        clear h1 h2 h4
        go_wp2_with fail
        refine (under_calls (unhide H1D) (by omega) (fun x hx => by have := (unhide INV).few x hx; omega)).mono ?_
        rintro e W3 ⟨us, uc, ys, rfl, hys, hU, b3⟩
        have U3 := hide hU
        have YS := hide hys
        have N3 := hide ((unhide H1D).later b3)
        have K3 := hide ((unhide H2D).later b3)
        have P3 := hide (((unhide hbb).later (unhide bD)).later b3)
        have XD3 := hide (later_block b3 (unhide XD))
        have F3 := hide ((unhide FD).trans (b3.mono (unhide FD).size))
        have TD3 := hide ((unhide TD).later b3)
        have S3 := hide b3.size
        clear hU hys b3 c0 c1 c2 c3 c4
        obtain ⟨c0, c1, c2, c3, c4⟩ := dB_cells (unhide XD3)
        have hlen : ys.length = xs.length := by have := congrArg List.length (unhide YS); simpa using this
        by_cases hd0 : doubleX xs i = 0
        · have hh : hasP xs i = true ∧ xs.length < 128 := by
            unfold doubleX at hd0
            cases hq : hasP xs i
            · rw [hq] at hd0; simp at hd0
            · rw [hq] at hd0
              refine ⟨rfl, ?_⟩
              by_cases h8 : 128 ≤ xs.length
              · simp [h8] at hd0
              · omega
          obtain ⟨i', rfl, hi'⟩ := has_nat hh.1
          have hlx := (unhide INV).few _ (List.getElem_mem hi')
          have hiy : i' < ys.length := by omega
          have hyx : (ys[i']'hiy).1 = (xs[i']'hi').1 := by
            have := congrArg (fun l => l[i']?) (unhide YS)
            simpa [List.getElem?_map, List.getElem?_eq_getElem hiy, List.getElem?_eq_getElem hi'] using this
          go_wp2_with fail
          refine (double_fresh (unhide N3) i' hi' hh.2 (by omega) (by omega) (by omega)).mono ?_
          rintro e W4 ⟨rfl, sn4, cn4, hd4, n4, g4, _⟩
          have N4 := hide n4
          have XD4 := hide (g4.newer (unhide H1) (Nat.le_refl _) (unhide XD3))
          have P4 := hide ((unhide P3).ngrew (unhide N3) g4 (unhide H4))
          have K4 := hide (show TallyAt W4 K tn T (fun _ => 1) from by
            obtain ⟨es', k', hK'⟩ := (unhide K3).isMap
            exact (unhide K3).same (g4.otherMap (unhide N3) hK' (unhide TK).ne))
          have F4 := hide ((unhide F3).trans ((unhide N3).below g4))
          have A4 := hide (show ∀ g, blk sp = some g → blk sn4 ≠ some g from fun g hg hs => by
            rcases g4.lies g hs with h5 | h5
            · exact unhide H4 g hg h5
            · obtain ⟨_, cur, hc⟩ := (unhide P3).blk_is g hg
              have := (Array.getElem?_eq_some_iff.1 hc).1
              omega)
          have U4 := hide ((unhide U3).hi (fun q o hq ho => g4.newer (unhide H1D) hq ho))
          clear n4 g4 c0 c1 c2 c3 c4
          obtain ⟨c0, c1, c2, c3, c4⟩ := dB_cells (unhide XD4)
          obtain ⟨g, hsu, r0, r1, r2, r3⟩ := (unhide U4).cell i' hiy
          have OY := hide ((unhide U4).dat.own _ (List.getElem_mem hiy)).1
          rw [hyx] at r0 r1 r2 r3 OY
          have INVx := hide (unhide INV)
          clear hyx
          generalize (ys[i']'hiy).2 = hy at *
          generalize (xs[i']'hi').1 = x at *
          obtain ⟨hy1, hy2⟩ := hy
          obtain ⟨id, fx, tx, lx⟩ := x
          simp only at r0 r1 r2 r3 OY N4 hlx
          have b5 := hide (show Below W4.heap.size W4 (W4.alloc (.cells #[.int .i64 id, .int .i64 fx, .int .i64 tx, .slice hy1 lx.length hy2] 35)) from (Below.refl _ _).alloc (Nat.le_refl _) _)
          have X5 := hide (heap_new W4 (.cells #[.int .i64 id, .int .i64 fx, .int .i64 tx, .slice hy1 lx.length hy2] 35))
          have XD5 := hide (later_block (unhide b5) (unhide XD4))
          obtain ⟨x0, x1, x2, x3⟩ := pkB_cells (unhide X5)
          have f0 := box_free (unhide X5) 0
          have e0 := cell_later (unhide b5) c3
          subst hsu
          have hi0 : (0 : Int) ≤ (i' : Int) := by omega
          have hi1 : (i' : Int) < (xs.length : Int) := by omega
          have hi2 : ¬ (xs.length : Int) ≤ (i' : Int) := by omega
          have b6 : Below W4.heap.size W4 (W4.alloc (.cells #[.int .i64 ((ps.length : Int) + 1), .int .i64 fx, .int .i64 tx, .slice hy1 lx.length hy2] 35)) := (Below.refl _ _).alloc (Nat.le_refl _) _
          have b7 := hide (show Below W4.heap.size W4 ((W4.alloc (.cells #[.int .i64 ((ps.length : Int) + 1), .int .i64 fx, .int .i64 tx, .slice hy1 lx.length hy2] 35)).alloc (.cells #[.int .i64 ((ps.length : Int) + 1), .int .i64 fx, .int .i64 tx, .slice hy1 lx.length hy2] 35)) from b6.alloc b6.size _)
          have s6 : (W4.alloc (.cells #[.int .i64 ((ps.length : Int) + 1), .int .i64 fx, .int .i64 tx, .slice hy1 lx.length hy2] 35)).heap.size = W4.heap.size + 1 := by simp
          have X7 := hide (show ((W4.alloc (.cells #[.int .i64 ((ps.length : Int) + 1), .int .i64 fx, .int .i64 tx, .slice hy1 lx.length hy2] 35)).alloc (.cells #[.int .i64 ((ps.length : Int) + 1), .int .i64 fx, .int .i64 tx, .slice hy1 lx.length hy2] 35)).heap[W4.heap.size + 1]? = some (.cells #[.int .i64 ((ps.length : Int) + 1), .int .i64 fx, .int .i64 tx, .slice hy1 lx.length hy2] 35) from s6 ▸ heap_new _ _)
          have P7 := hide ((unhide P4).later (unhide b7))
          have O7 := hide ((unhide OY).later (unhide b7))
          have F7 := hide ((unhide F4).trans ((unhide b7).mono (unhide F4).size))
          clear s6 b6
          go_wp2_with (at_builtin; refine wpList_appendQ rfl (.tmp 130) (.tmp 132) rfl L rfl (unhide hL) (by exact unhide P7) (W4.heap.size + 1) (((ps.length : Int) + 1, fx, tx, lx), (hy1, hy2)) rfl (by exact unhide X7) (by exact (unhide O7).bytes) (fun b' off' h0 e => .inr ((unhide O7).isBytes b' off' e)) (by have := unhide hL4; have := unhide hL; omega) (by exact (unhide F7).size) ?_; intro sp8 c8 W8 hp8 hg8 hl8; have HP8 := hide hp8; have HG8 := hide hg8; have HL8 := hide hl8; clear hp8 hg8 hl8)
          have T8 := hide (TkAt.appended ((unhide N4).later (unhide b7)) ((unhide K4).later (unhide b7)) h3 (unhide A4) (unhide P7) (unhide INVx) (unhide TK).ne (unhide TK).few (unhide TK).lowK hlx (unhide HP8) (unhide HG8) (unhide HL8))
          have L8 := hide (show (ps ++ [(((ps.length : Int) + 1, fx, tx, lx), (hy1, hy2))]).length = L + 1 by rw [List.length_append, unhide hL]; rfl)
          have F8 := hide ((unhide F7).grown (unhide HG8) (unhide F7).size (fun g hg => ((unhide P7).blk_is g hg).1))
          exact ⟨⟨j + 1, L + 1, sp8, c8, _, _, T, by omega, by go_num, rfl, unhide L8, unhide T8, unhide F8⟩, by simp [intOf]; omega⟩
        · go_wp2_with fail
          refine (double_no (unhide N3) i hd0).mono ?_
          rintro e W4 ⟨rfl, rfl⟩
          have T4 := hide (unhide TD3).older
          have hx1 : ¬ ((doubleX xs i : Nat) : Int) = 0 := by omega
          generalize ((doubleX xs i : Nat) : Int) = q at *
          go_wp2
          exact ⟨⟨j + 1, L, sp, cp, xs, ps, T, by omega, by go_num, rfl, unhide hL, unhide T4, unhide F3⟩, by simp [intOf]; omega⟩
      have TD' := hide (unhide TD).older
      go_wp2
      exact ⟨⟨j + 1, L, sp, cp, xs, ps, T, by omega, by go_num, rfl, unhide hL, unhide TD', unhide FD⟩, by simp [intOf]; omega⟩
    · obtain rfl : j = min n 400 := by omega
      have hjj : ¬ (((min n 400 : Nat) : Int) < ((min n 400 : Nat) : Int)) := by omega
      go_wp2_with fail
      refine (live4_calls _).mono ?_
      rintro e W3 ⟨rfl, b3⟩
      have T3 := hide ((unhide TK).later b3)
      have F3 := hide ((unhide F).trans (b3.mono (unhide F).size))
      clear b3
      obtain ⟨nn, sn, cn, tn, h1, h2, _, _⟩ := (unhide T3).ex
      have hln := fun ty => h2.len ty
      have hfin : ((xs.length : Int) == wrap64 ((L : Int) - (T.length : Int))) = true := by
        have := (unhide T3).inv.len
        have := unhide hL
        have := (unhide T3).few
        have e : wrap64 ((L : Int) - (T.length : Int)) = (L : Int) - (T.length : Int) := by unfold wrap64; omega
        rw [e]
        simp only [beq_iff_eq]
        omega
      have HN1 := hide h1
      clear h1 h2
      go_wp2_with fail
      refine (len_calls (unhide HN1)).mono ?_
      rintro e W4 ⟨rfl, rfl⟩
      go_wp2
      go_ret
      exact ⟨rfl, unhide F3⟩

set_option maxRecDepth 100000 in
theorem lifted (os : Os) (started : os.Started) (H : Type) (enc : TypeId × Value → H) :
    ReturnsInHanded {} Try.checked os 3 .any (Rows.flightTakenSpec.pre6 enc Try.prog Try.f3 Rows.flightTakenRow.domain false) (Rows.flightTakenSpec.post enc Try.prog Try.f3 false true false false) := by
  refine returnsInHanded_of_change_sized (C := Try.checked) own started (by kernel_rfl) Try.func3
    (ChangeSpec.witness6 (enc := enc) (C := Try.checked) false ⟨#[], #[.slice none 0 0], []⟩ 8 (by kernel_rfl) (by kernel_rfl) (by kernel_rfl) (by kernel_rfl)) ?_
  intro W base args ds gs before hval0 hW hcnd hsz _
  have hval : ∀ (j : Nat) t v, Try.f3.params[j]? = some t → args[j]? = some v → Value.okWide Try.prog W .any base t v := hval0
  have hW' := hW
  obtain ⟨p, q, hA0, hV, rfl, hfz, hnd⟩ := hW
  have hA : DataW.TrodAll enc Try.prog W 0 (fun _ => true) true Try.f3.params.toList args.toList ds p := hA0
  rw [Try.params3] at hA hval
  obtain ⟨v0, vs0, d0, ds0, p0, q0, hargs, rfl, rfl, h0, r0⟩ := trodAll_cons hA
  obtain ⟨rfl, rfl, rfl⟩ := trodAll_nil r0
  obtain rfl : args = #[v0] := by cases args; simp_all
  obtain ⟨rfl, rfl⟩ := trodVars_none hV
  obtain ⟨a0, len0, c0, rfl⟩ := okWide_slice Try.underlying22 (hval 0 22 v0 rfl rfl)
  have k0 := h0
  have lt0 : ∀ x ∈ p0, x.block < W.heap.size := by obtain ⟨m, hm⟩ := k0; exact DataW.trod_lt m _ _ _ hm
  obtain ⟨l0, rfl, hx0, hb0, hd0⟩ := deeds_arg h0
  clear hA0 hval0
  refine (walk a0 c0 l0 W hx0 hb0 hd0).mono fun e W' ⟨he, bel⟩ => ?_
  subst he
  exact ⟨_, rfl, _, _, _, [], _, [], hW', trodAll_mk1 (shut_bool Try.underlying4 _), (trodAll_cons_mk (Below.trod laidOut (by kernel_rfl) (of_decide_eq_true (by kernel_rfl)) k0 bel lt0) trodAll_mk0), rfl, bel.frame _, fun h => by cases h⟩

theorem proved : Rows.FlightTakenSaid :=
  OpenClaim.holds_of_wide 3 Try.f3 rfl rfl rfl rfl rfl rfl rfl ⟨rfl, rfl, rfl, rfl, rfl⟩ rfl rfl rfl rfl rfl (by kernel_rfl) Try.func3 (by kernel_rfl)
    (of_decide_eq_true (by kernel_rfl)) (by unfold Func.isWrapper; first | (rw [if_pos (by decide +kernel)]; kernel_rfl) | (rw [if_neg (by decide +kernel)]; exact ⟨rfl, rfl⟩))
    (fun os started H enc _ => lifted os started H enc)
end Go.Proofs.Yticemhnfcelpmaa.flightTaken
namespace Go.Proofs.Yticemhnfcelpmaa
theorem flightTaken_holds : Rows.FlightTakenSaid := flightTaken.proved
#print axioms flightTaken_holds
end Go.Proofs.Yticemhnfcelpmaa
