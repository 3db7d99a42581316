/- Flight: Take, Part, Heal, Tick and what is told, on both nets. -/
import Derived.Test.YticemhnfcelpmaaTw1
import Derived.Test.YticemhnfcelpmaaFl11
namespace Go.Proofs.Yticemhnfcelpmaa
open Go.ChangeShapes Go.WideShapes Go.ChangeAt Go.RowKit Go.Maps

section
variable {base : Nat} {w : World} {N M n : Nat} {sp : Option Addr} {c : Nat} {xs : List (Pkt × Hdl)} {R : Nat} {sr : Option Addr} {cr : Nat} {zs : List SPk} {pa : List Bool} {kr : List Int} {s r : FS} {Av : Nat → Prop}
theorem apart_at {xs : List (Pkt × Hdl)} (h : xs.Pairwise fun x y => ∀ g, blk x.2.1 = some g → blk y.2.1 ≠ some g) (i j : Nat) (hi : i < xs.length) (hj : j < xs.length) (hne : i ≠ j) (g : Nat) (hg : blk xs[i].2.1 = some g) : blk xs[j].2.1 ≠ some g := by
  rw [List.pairwise_iff_getElem] at h
  rcases Nat.lt_or_gt_of_ne hne with h1 | h1
  · exact h i j hi hj h1 g hg
  · intro e
    exact h j i hj hi h1 g e hg
theorem two_take_yes (h : Two base w N M R s r Av) (ha : s.age ≤ 900) (i : Int) (hi : hasL s.pk.length i = true) :
    Calls Try.prog 8 #[.pointer (some ⟨N, 0, none⟩), .int .i64 i] w fun e w' => ∃ hd : Hdl, e = .returned (.tuple #[pkV (s.nth i, hd), .int .i64 0]) ∧ OwnB base w' hd.1 hd.2 (s.nth i).2.2.2 ∧ Two base w' N M R (takeS s i) r (fun g => Av g ∨ blk hd.1 = some g) ∧ Stp base NX Av w w' := by
  obtain ⟨n, sp, c, xs, sr, cr, zs, pa, kr, h⟩ := h
  have ho := h.okN.old
  have hfw := h.okN.few
  have hS : takeS s i = s.without (sameId (s.nth i).1) := by unfold takeS; rw [if_pos hi]
  obtain ⟨j, rfl, hj⟩ := hasL_yes hi
  have hjx : j < xs.length := by rw [h.xlen]; exact hj
  have hxe := h.xnth j hjx
  refine (take_yes h.net j hjx (by rw [h.xlen]; omega)).mono ?_
  rintro e w' ⟨rfl, h1, g1⟩
  have hsub : ∀ x ∈ keep (sameId xs[j].1.1) xs, x ∈ xs ∧ x.1.1 ≠ xs[j].1.1 := by
    intro x hx
    have := List.mem_filter.1 (show x ∈ xs.filter _ from hx)
    exact ⟨this.1, by simpa [sameId] using this.2⟩
  have hst := Stp.ofN h.net g1 h.avsN
  refine ⟨xs[j].2, ?_, ?_, ?_, hst⟩
  · rw [← hxe]
  · rw [← hxe]
    exact (h.net.own.dat.own xs[j] (List.getElem_mem hjx)).1.steps hst (by decide)
  · rw [hS]
    refine ⟨n, sp, c, keep (sameId xs[j].1.1) xs, sr, cr, zs, pa, kr, { h with net := h1, npk := by rw [map_keep, h.npk, hxe]; rfl, nn := Nat.le_succ_of_le h.nn, ref := h.ref.ngrew h.net g1, okN := h.okN.withoutOk _, apart := fun x hx => h.apart x (hsub x hx).1, avN := fun x hx g hg hA => ?_, avR := fun z hz g hg hA => ?_, avL := fun g hA => ?_, avP := fun g hg hA => ?_, avQ := fun g hg hA => ?_, avH := ⟨fun hA => ?_, fun hA => ?_, fun hA => ?_⟩ }⟩
    · rcases hA with hA | hA
      · exact h.avN x (hsub x hx).1 g hg hA
      · obtain ⟨k, hk, rfl⟩ := List.getElem_of_mem (hsub x hx).1
        have hne : k ≠ j := fun e => (hsub _ hx).2 (by simp only [e])
        exact apart_at h.net.own.dat.apart k j hk hjx hne g hg hA
    · rcases hA with hA | hA
      · exact h.avR z hz g hg hA
      · exact h.apart xs[j] (List.getElem_mem hjx) z hz g hA hg
    · rcases hA with hA | hA
      · exact Nat.lt_of_lt_of_le (h.avL g hA) g1.size
      · exact Nat.lt_of_lt_of_le (h.xlt _ (List.getElem_mem hjx) g hA) g1.size
    · rcases hA with hA | hA
      · exact h.avP g hg hA
      · exact h.net.own.datNe _ (List.getElem_mem hjx) g hA hg
    · rcases hA with hA | hA
      · exact h.avQ g hg hA
      · obtain ⟨cur, hc⟩ := h.ref.own.blk_is g hg
        exact (h.net.own.dat.own _ (List.getElem_mem hjx)).1.ne_block hc (by decide) hA
    · rcases hA with hA | hA
      · exact h.avH.1 hA
      · exact (h.net.own.dat.own _ (List.getElem_mem hjx)).1.ne_block h.net.blk (by decide) hA
    · rcases hA with hA | hA
      · exact h.avH.2.1 hA
      · obtain ⟨es, k, hM⟩ := h.net.blkM
        exact (h.net.own.dat.own _ (List.getElem_mem hjx)).1.ne_map hM hA
    · rcases hA with hA | hA
      · exact h.avH.2.2 hA
      · exact (h.net.own.dat.own _ (List.getElem_mem hjx)).1.ne_block h.ref.blk (by decide) hA
theorem two_take_no (h : Two base w N M R s r Av) (i : Int) (hi : hasL s.pk.length i = false) :
    Calls Try.prog 8 #[.pointer (some ⟨N, 0, none⟩), .int .i64 i] w fun e w' => e = .returned (.tuple #[.agg #[.int .i64 0, .int .i64 0, .int .i64 0, .slice none 0 0], .int .i64 8]) ∧ Two base w' N M R (takeS s i) r Av ∧ Stp base NX Av w w' := by
  obtain ⟨n, sp, c, xs, sr, cr, zs, pa, kr, h⟩ := h
  refine (take_no h.net i (by rw [hasP_eq, h.xlen]; exact hi)).mono ?_
  rintro e w' ⟨rfl, b1⟩
  refine ⟨rfl, ?_, h.quiet b1⟩
  unfold takeS
  rw [if_neg (by rw [hi]; decide)]
  exact (h.later b1).oldN
theorem two_rtake_yes (h : Two base w N M R s r Av) (ha : r.age ≤ 900) (i : Int) (hi : hasL r.pk.length i = true) :
    Calls Try.prog 31 #[.pointer (some ⟨R, 0, none⟩), .int .i64 i] w fun e w' => ∃ hd : Hdl, e = .returned (.tuple #[pkV (r.nth i, hd), .int .i64 0]) ∧ OwnB 0 w' hd.1 hd.2 (r.nth i).2.2.2 ∧ Two base w' N M R s (takeS r i) Av ∧ Stp base RX Av w w' := by
  obtain ⟨n, sp, c, xs, sr, cr, zs, pa, kr, h⟩ := h
  have ho := h.okR.old
  have ht := h.tot
  have hS : takeS r i = r.without (sameId (r.nth i).1) := by unfold takeS; rw [if_pos hi]
  refine (refTake_yes h.ref (by omega) i (by rw [hasP_eq, h.alen]; exact hi)).mono ?_
  rintro e w' ⟨j, hj, hg, hm, rfl, h1, g1⟩
  have hze := h.znth j hj hg i hm
  have hst := Stp.ofR h.ref g1 h.avsR
  refine ⟨zs[j].1.2, ?_, ?_, ?_⟩
  · rw [← hze]
  · rw [← hze]
    exact (h.ref.own.dat zs[j] (List.getElem_mem hj)).steps hst (by decide)
  · rw [hS]
    have hmem : ∀ z ∈ zs.set j (zs[j].1, true), ∃ z0 ∈ zs, z0.1 = z.1 := by
      intro z hz
      rcases List.mem_or_eq_of_mem_set hz with h2 | h2
      · exact ⟨z, h2, rfl⟩
      · subst h2
        exact ⟨zs[j], List.getElem_mem hj, rfl⟩
    refine h.refStep (r' := r.without (sameId (r.nth i).1)) h1 g1 ?_ (h.ids.gone j hj) (by rw [List.length_set]; exact ht) h.par h.clk ?_ (h.okR.withoutOk _) (fun z hz => .inl (hmem z hz))
    · rw [h.ids.alive_gone j hj, map_keep, h.rpk, hze]
      rfl
    · intro z hz
      obtain ⟨z0, h0, e0⟩ := hmem z hz
      rw [← e0]
      exact h.len z0 h0
theorem two_rtake_no (h : Two base w N M R s r Av) (ha : r.age ≤ 900) (i : Int) (hi : hasL r.pk.length i = false) :
    Calls Try.prog 31 #[.pointer (some ⟨R, 0, none⟩), .int .i64 i] w fun e w' => e = .returned (.tuple #[.agg #[.int .i64 0, .int .i64 0, .int .i64 0, .slice none 0 0], .int .i64 8]) ∧ Two base w' N M R s (takeS r i) Av ∧ Stp base RX Av w w' := by
  obtain ⟨n, sp, c, xs, sr, cr, zs, pa, kr, h⟩ := h
  have ho := h.okR.old
  have ht := h.tot
  refine (refTake_no h.ref (by omega) i (by rw [hasP_eq, h.alen]; exact hi)).mono ?_
  rintro e w' ⟨rfl, b1⟩
  refine ⟨rfl, ?_, h.quiet b1⟩
  unfold takeS
  rw [if_neg (by rw [hi]; decide)]
  exact (h.later b1).oldR
theorem two_part (h : Two base w N M R s r Av) (ha : s.age ≤ 900) (f t : Int) (hf : In64 f) (ht : In64 t) :
    Calls Try.prog 27 #[.pointer (some ⟨N, 0, none⟩), .int .i64 f, .int .i64 t] w fun e w' => e = .returned (.int .i64 (linkR f t : Nat)) ∧ Two base w' N M R (partS s f t) r Av ∧ Stp base NX Av w w' := by
  obtain ⟨n, sp, c, xs, sr, cr, zs, pa, kr, h⟩ := h
  have ho := h.okN.old
  have hfw := h.okN.few
  have hnn := h.nn
  cases hL : isL f t
  · refine (part_no f t hL).mono ?_
    rintro e w' ⟨rfl, b1⟩
    unfold linkR partS
    rw [hL]
    exact ⟨rfl, (h.later b1).oldN, h.quiet b1⟩
  · refine (part_yes h.net f t hf ht (by simp only [maxLen]; omega) (by rw [h.xlen]; omega) hL).mono ?_
    rintro e w' ⟨rfl, h1, g1⟩
    have hok := h.okN.part f t
    unfold partS at hok
    unfold linkR partS
    rw [if_pos hL] at hok ⊢
    rw [if_pos hL]
    exact ⟨rfl, h.netStep (s' := { s.without (ofLink f t) with S := parts s.S f t }) (n' := n + 1) h1 g1 (by rw [map_keep, h.npk]; rfl) (by simp only [FS.without]; omega) hok (fun x hx => .inl (List.mem_filter.1 (show x ∈ xs.filter _ from hx)).1)⟩
theorem paS_set {pa : List Bool} (hp : pa.length = 100) (a b : Nat) (hb : 1 ≤ b ∧ b ≤ 9) (ha : 1 ≤ a ∧ a ≤ 9) (v : Bool) (f t : Int) (hL : isL f t = true) : paS (pa.set (10 * a + b) v) f t = if f = (a : Int) ∧ t = (b : Int) then v else paS pa f t := by
  obtain ⟨x, y, rfl, rfl, hx1, hx2, hy1, hy2, _⟩ := isL_nat hL
  unfold paS
  simp only [Int.toNat_natCast, List.getD_eq_getElem?_getD]
  by_cases e : (x : Int) = (a : Int) ∧ (y : Int) = (b : Int)
  · obtain ⟨e1, e2⟩ := e
    have e1' : x = a := by omega
    have e2' : y = b := by omega
    subst e1' e2'
    rw [if_pos ⟨rfl, rfl⟩, List.getElem?_set_self (by omega)]
    rfl
  · rw [if_neg e, List.getElem?_set_ne (by omega)]
theorem two_rpart (h : Two base w N M R s r Av) (ha : r.age ≤ 900) (f t : Int) :
    Calls Try.prog 33 #[.pointer (some ⟨R, 0, none⟩), .int .i64 f, .int .i64 t] w fun e w' => e = .returned (.int .i64 (linkR f t : Nat)) ∧ Two base w' N M R s (partS r f t) Av ∧ Stp base RX Av w w' := by
  obtain ⟨n, sp, c, xs, sr, cr, zs, pa, kr, h⟩ := h
  have ho := h.okR.old
  have ht := h.tot
  cases hL : isL f t
  · refine (refPart_no f t hL).mono ?_
    rintro e w' ⟨rfl, rfl⟩
    unfold linkR partS
    rw [hL]
    exact ⟨rfl, h.oldR, Stp.refl _ _ _ _⟩
  · have hok := h.okR.part f t
    unfold partS at hok
    unfold linkR partS
    rw [if_pos hL] at hok ⊢
    rw [if_pos hL]
    obtain ⟨x, y, rfl, rfl, hx1, hx2, hy1, hy2, _⟩ := isL_nat hL
    refine (refPart_yes h.ref (by omega) x y ⟨hx1, hx2⟩ ⟨hy1, hy2⟩ hL).mono ?_
    rintro e w' ⟨rfl, h1, g1⟩
    have hmem : ∀ z ∈ zs.map (loseL (x : Int) (y : Int)), ∃ z0 ∈ zs, z0.1 = z.1 := by
      intro z hz
      obtain ⟨z0, h0, rfl⟩ := List.mem_map.1 hz
      exact ⟨z0, h0, by unfold loseL; split <;> rfl⟩
    refine ⟨rfl, h.refStep (r' := { r.without (ofLink x y) with S := parts r.S x y }) h1 g1 ?_ (h.ids.lose _ _) (by rw [List.length_map]; exact ht) ?_ h.clk ?_ hok (fun z hz => .inl (hmem z hz))⟩
    · rw [alive_lose, map_keep, h.rpk]
      rfl
    · intro f' t' hL'
      rw [paS_set h.ref.hundred x y ⟨hy1, hy2⟩ ⟨hx1, hx2⟩ true f' t' hL', h.par f' t' hL']
      show _ = parts r.S x y f' t'
      unfold parts
      by_cases e : f' = (x : Int) ∧ t' = (y : Int)
      · rw [if_pos e, e.1, e.2]
        simp
      · rw [if_neg e]
        have : (decide (f' = (x : Int)) && decide (t' = (y : Int))) = false := by
          by_cases e1 : f' = (x : Int)
          · have e2 : ¬ t' = (y : Int) := fun e2 => e ⟨e1, e2⟩
            simp [e2]
          · simp [e1]
        rw [this, Bool.false_or]
    · intro z hz
      obtain ⟨z0, h0, e0⟩ := hmem z hz
      rw [← e0]
      exact h.len z0 h0
theorem two_heal (h : Two base w N M R s r Av) (f t : Int) (hf : In64 f) (ht : In64 t) :
    Calls Try.prog 34 #[.pointer (some ⟨N, 0, none⟩), .int .i64 f, .int .i64 t] w fun e w' => e = .returned (.int .i64 (linkR f t : Nat)) ∧ Two base w' N M R (healS s f t) r Av ∧ Stp base NX Av w w' := by
  obtain ⟨n, sp, c, xs, sr, cr, zs, pa, kr, h⟩ := h
  cases hL : isL f t
  · refine (heal_no f t hL).mono ?_
    rintro e w' ⟨rfl, b1⟩
    unfold linkR healS
    rw [hL]
    exact ⟨rfl, (h.later b1).oldN, h.quiet b1⟩
  · refine (heal_yes h.net f t hf ht hL).mono ?_
    rintro e w' ⟨rfl, h1, g1⟩
    have hok := h.okN.heal f t
    unfold healS at hok
    unfold linkR healS
    rw [if_pos hL] at hok ⊢
    rw [if_pos hL]
    exact ⟨rfl, h.netStep (s' := { s.old with S := heals s.S f t }) (n' := n) h1 g1 h.npk (Nat.le_succ_of_le h.nn) hok (fun x hx => .inl hx)⟩
theorem two_rheal (h : Two base w N M R s r Av) (f t : Int) :
    Calls Try.prog 35 #[.pointer (some ⟨R, 0, none⟩), .int .i64 f, .int .i64 t] w fun e w' => e = .returned (.int .i64 (linkR f t : Nat)) ∧ Two base w' N M R s (healS r f t) Av ∧ Stp base RX Av w w' := by
  obtain ⟨n, sp, c, xs, sr, cr, zs, pa, kr, h⟩ := h
  cases hL : isL f t
  · refine (refHeal_no f t hL).mono ?_
    rintro e w' ⟨rfl, rfl⟩
    unfold linkR healS
    rw [hL]
    exact ⟨rfl, h.oldR, Stp.refl _ _ _ _⟩
  · have hok := h.okR.heal f t
    unfold healS at hok
    unfold linkR healS
    rw [if_pos hL] at hok ⊢
    rw [if_pos hL]
    obtain ⟨x, y, rfl, rfl, hx1, hx2, hy1, hy2, _⟩ := isL_nat hL
    refine (refHeal_yes h.ref x y ⟨hx1, hx2⟩ ⟨hy1, hy2⟩ hL).mono ?_
    rintro e w' ⟨rfl, h1, g1⟩
    refine ⟨rfl, h.refStep (r' := { r.old with S := heals r.S x y }) h1 g1 h.rpk h.ids h.tot ?_ h.clk h.len hok (fun z hz => .inl ⟨z, hz, rfl⟩)⟩
    intro f' t' hL'
    rw [paS_set h.ref.hundred x y ⟨hy1, hy2⟩ ⟨hx1, hx2⟩ false f' t' hL', h.par f' t' hL']
    show _ = heals r.S x y f' t'
    unfold heals
    by_cases e : f' = (x : Int) ∧ t' = (y : Int)
    · rw [if_pos e, e.1, e.2]
      simp
    · rw [if_neg e]
      have : (decide (f' = (x : Int)) && decide (t' = (y : Int))) = false := by
        by_cases e1 : f' = (x : Int)
        · have e2 : ¬ t' = (y : Int) := fun e2 => e ⟨e1, e2⟩
          simp [e2]
        · simp [e1]
      rw [this, Bool.not_false, Bool.true_and]
theorem two_tick (h : Two base w N M R s r Av) (ha : s.age ≤ 900) (k : Int) :
    Calls Try.prog 36 #[.pointer (some ⟨N, 0, none⟩), .int .i64 k] w fun e w' => e = .returned (.tuple #[.int .i64 (tickR s k).1, .int .i64 ((tickR s k).2 : Nat)]) ∧ Two base w' N M R (tickS s k) r Av ∧ Stp base NX Av w w' := by
  obtain ⟨n, sp, c, xs, sr, cr, zs, pa, kr, h⟩ := h
  cases hN : isN k
  · refine (tick_no k hN).mono ?_
    rintro e w' ⟨rfl, rfl⟩
    unfold tickR tickS
    rw [hN]
    exact ⟨rfl, h.oldN, Stp.refl _ _ _ _⟩
  · have hok := h.okN.tick k
    unfold tickS at hok
    unfold tickR tickS
    rw [if_pos hN] at hok ⊢
    rw [if_pos hN]
    obtain ⟨j, hj, rfl⟩ := isN_nat hN
    have hck := h.okN.ckb j
    have e1 : ((j : Int) + 1 - 1).toNat = j := by omega
    refine (tick_yes h.net j hj hck.1 (by omega)).mono ?_
    rintro e w' ⟨rfl, h1, g1⟩
    unfold FS.at at hok ⊢
    rw [e1] at hok ⊢
    exact ⟨rfl, h.netStep (s' := { s.old with ck := s.ck.set j (s.ck.getD j 0 + 1) }) (n' := n) h1 g1 h.npk (Nat.le_succ_of_le h.nn) hok (fun x hx => .inl hx)⟩
theorem two_rtick (h : Two base w N M R s r Av) (ha : r.age ≤ 900) (k : Int) :
    Calls Try.prog 37 #[.pointer (some ⟨R, 0, none⟩), .int .i64 k] w fun e w' => e = .returned (.tuple #[.int .i64 (tickR r k).1, .int .i64 ((tickR r k).2 : Nat)]) ∧ Two base w' N M R s (tickS r k) Av ∧ Stp base RX Av w w' := by
  obtain ⟨n, sp, c, xs, sr, cr, zs, pa, kr, h⟩ := h
  cases hN : isN k
  · refine (refTick_no k hN).mono ?_
    rintro e w' ⟨rfl, rfl⟩
    unfold tickR tickS
    rw [hN]
    exact ⟨rfl, h.oldR, Stp.refl _ _ _ _⟩
  · have hok := h.okR.tick k
    unfold tickS at hok
    unfold tickR tickS
    rw [if_pos hN] at hok ⊢
    rw [if_pos hN]
    obtain ⟨j, hj, rfl⟩ := isN_nat hN
    have hck := h.okR.ckb j
    have hc := h.clk j hj
    have e1 : ((j : Int) + 1 - 1).toNat = j := by omega
    refine (refTick_yes h.ref j hj (by rw [hc]; exact hck.1) (by rw [hc]; omega)).mono ?_
    rintro e w' ⟨rfl, h1, g1⟩
    unfold FS.at at hok ⊢
    rw [e1] at hok ⊢
    refine ⟨by rw [hc]; rfl, h.refStep (r' := { r.old with ck := r.ck.set j (r.ck.getD j 0 + 1) }) h1 g1 h.rpk h.ids h.tot h.par ?_ h.len hok (fun z hz => .inl ⟨z, hz, rfl⟩)⟩
    intro j' hj'
    show _ = (r.ck.set j (r.ck.getD j 0 + 1)).getD j' 0
    have h10 := h.ref.ten
    have h9 := h.okR.nine
    have hc' := h.clk j' hj'
    rw [List.getD_eq_getElem?_getD, List.getD_eq_getElem?_getD (l := r.ck.set _ _)]
    by_cases e : j' = j
    · subst e
      rw [List.getElem?_set_self (by omega), List.getElem?_set_self (by omega), hc]
    · rw [List.getElem?_set_ne (by omega), List.getElem?_set_ne (by omega), ← List.getD_eq_getElem?_getD, ← List.getD_eq_getElem?_getD, hc']
theorem two_now (h : Two base w N M R s r Av) (k : Int) :
    Calls Try.prog 41 #[.pointer (some ⟨N, 0, none⟩), .int .i64 k] w fun e w' => e = .returned (.int .i64 (nowR s k)) ∧ w' = w := by
  obtain ⟨n, sp, c, xs, sr, cr, zs, pa, kr, h⟩ := h
  cases hN : isN k
  · refine (now_no h.net k hN).mono ?_
    rintro e w' ⟨rfl, rfl⟩
    unfold nowR
    rw [hN]
    exact ⟨rfl, rfl⟩
  · unfold nowR FS.at
    rw [if_pos hN]
    obtain ⟨j, hj, rfl⟩ := isN_nat hN
    have e1 : ((j : Int) + 1 - 1).toNat = j := by omega
    rw [e1]
    exact now_yes h.net j hj
theorem two_rnow (h : Two base w N M R s r Av) (k : Int) :
    Calls Try.prog 42 #[.pointer (some ⟨R, 0, none⟩), .int .i64 k] w fun e w' => e = .returned (.int .i64 (nowR r k)) ∧ w' = w := by
  obtain ⟨n, sp, c, xs, sr, cr, zs, pa, kr, h⟩ := h
  cases hN : isN k
  · refine (refNow_no k hN).mono ?_
    rintro e w' ⟨rfl, rfl⟩
    unfold nowR
    rw [hN]
    exact ⟨rfl, rfl⟩
  · unfold nowR FS.at
    rw [if_pos hN]
    obtain ⟨j, hj, rfl⟩ := isN_nat hN
    have e1 : ((j : Int) + 1 - 1).toNat = j := by omega
    rw [e1, ← h.clk j hj]
    exact refNow_yes h.ref j hj
theorem two_parted (h : Two base w N M R s r Av) (f t : Int) (hf : In64 f) (ht : In64 t) :
    Calls Try.prog 21 #[.pointer (some ⟨N, 0, none⟩), .int .i64 f, .int .i64 t] w fun e w' => e = .returned (.bool (s.S f t)) ∧ Below w.heap.size w w' := by
  obtain ⟨n, sp, c, xs, sr, cr, zs, pa, kr, h⟩ := h
  exact parted_calls h.net f t hf ht
theorem two_rparted (h : Two base w N M R s r Av) (f t : Int) :
    Calls Try.prog 43 #[.pointer (some ⟨R, 0, none⟩), .int .i64 f, .int .i64 t] w fun e w' => e = .returned (.bool (r.S f t)) ∧ w' = w := by
  obtain ⟨n, sp, c, xs, sr, cr, zs, pa, kr, h⟩ := h
  cases hL : isL f t
  · rw [h.okR.no f t hL]
    exact refParted_no f t hL
  · rw [← h.par f t hL]
    obtain ⟨x, y, rfl, rfl, hx1, hx2, hy1, hy2, _⟩ := isL_nat hL
    exact refParted_yes h.ref x y ⟨hx1, hx2⟩ ⟨hy1, hy2⟩ hL
theorem two_len (h : Two base w N M R s r Av) : Calls Try.prog 13 #[.pointer (some ⟨N, 0, none⟩)] w fun e w' => e = .returned (.int .i64 (s.pk.length : Int)) ∧ w' = w := by
  obtain ⟨n, sp, c, xs, sr, cr, zs, pa, kr, h⟩ := h
  rw [← h.xlen]
  exact len_calls h.net
theorem two_rlen (h : Two base w N M R s r Av) (ha : r.age ≤ 900) : Calls Try.prog 38 #[.pointer (some ⟨R, 0, none⟩)] w fun e w' => e = .returned (.int .i64 (r.pk.length : Int)) ∧ Below w.heap.size w w' := by
  obtain ⟨n, sp, c, xs, sr, cr, zs, pa, kr, h⟩ := h
  have ho := h.okR.old
  have ht := h.tot
  rw [← h.alen]
  exact refLen_calls h.ref (by omega)
theorem two_under (h : Two base w N M R s r Av) (ha : s.age ≤ 900) : Calls Try.prog 10 #[.pointer (some ⟨N, 0, none⟩)] w fun e w' => ∃ sp' c' ys, e = .returned (.slice sp' s.pk.length c') ∧ ys.map (·.1) = s.pk ∧ OwnP w.heap.size w'.heap.size w' sp' c' ys ∧ Below w.heap.size w w' := by
  obtain ⟨n, sp, c, xs, sr, cr, zs, pa, kr, h⟩ := h
  have ho := h.okN.old
  have hfw := h.okN.few
  have hx := h.xlen
  refine (under_calls h.net (by omega) (fun x hx => ?_)).mono ?_
  · have : x.1 ∈ s.pk := by rw [← h.npk]; exact List.mem_map_of_mem hx
    have := h.okN.len _ this
    omega
  · rintro e w' ⟨sp', c', ys, rfl, h1, h2, h3⟩
    exact ⟨sp', c', ys, by rw [hx], h1.trans h.npk, h2, h3⟩
theorem two_runder (h : Two base w N M R s r Av) (ha : r.age ≤ 900) : Calls Try.prog 40 #[.pointer (some ⟨R, 0, none⟩)] w fun e w' => ∃ sp' c' ys, e = .returned (.slice sp' r.pk.length c') ∧ ys.map (·.1) = r.pk ∧ RowQ w.heap.size w' sp' c' ys ∧ Below w.heap.size w w' := by
  obtain ⟨n, sp, c, xs, sr, cr, zs, pa, kr, h⟩ := h
  have ho := h.okR.old
  have ht := h.tot
  have ha' := h.alen
  refine (refUnder_calls h.ref (by omega)).mono ?_
  rintro e w' ⟨sp', c', rfl, h1, h2⟩
  exact ⟨sp', c', alive zs, by rw [ha'], h.rpk, h1, h2⟩
end
end Go.Proofs.Yticemhnfcelpmaa
