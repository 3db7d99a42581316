/- Flight: Send and Double on both nets. -/
import Derived.Test.YticemhnfcelpmaaTw0
namespace Go.Proofs.Yticemhnfcelpmaa
open Go.ChangeShapes Go.WideShapes Go.ChangeAt Go.RowKit Go.Maps

section
variable {base : Nat} {w : World} {N M n : Nat} {sp : Option Addr} {c : Nat} {xs : List (Pkt × Hdl)} {last : Int} {S : Int → Int → Bool} {ck : List Int} {R : Nat} {sr : Option Addr} {cr : Nat} {zs : List SPk} {pa : List Bool} {kr : List Int} {s r : FS} {Av : Nat → Prop}
theorem NetAt.bytes_ne (h : NetAt base w N M n sp c xs last S ck) {a : Option Addr} {l : List Nat} (hb : BytesAt w a l) : ∀ b off, 0 < l.length → a = some ⟨b, off, none⟩ → b ≠ N := by
  intro b off h0 ha e
  subst e
  obtain ⟨b', off', e1, e2⟩ := hb.cell 0 h0
  rw [ha] at e1
  simp only [Option.some.injEq, Addr.mk.injEq, and_true] at e1
  obtain ⟨rfl, rfl⟩ := e1
  rw [cell_of_row _ _ _ _ _ _ h.blk] at e2
  have := Array.mem_of_getElem? e2
  simp at this
theorem TwoAt.xlen (h : TwoAt base w N M R s r Av n sp c xs sr cr zs pa kr) : xs.length = s.pk.length := by
  have := congrArg List.length h.npk
  simpa using this
theorem TwoAt.alen (h : TwoAt base w N M R s r Av n sp c xs sr cr zs pa kr) : (alive zs).length = r.pk.length := by
  have := congrArg List.length h.rpk
  simpa using this
theorem TwoAt.xnth (h : TwoAt base w N M R s r Av n sp c xs sr cr zs pa kr) (j : Nat) (hj : j < xs.length) : xs[j].1 = s.nth (j : Int) := by
  rw [s.nth_mem j (by rw [← h.xlen]; exact hj)]
  have : (xs.map (·.1))[j]? = s.pk[j]? := by rw [h.npk]
  rw [List.getElem?_map, List.getElem?_eq_getElem hj, List.getElem?_eq_getElem (by rw [← h.xlen]; exact hj)] at this
  simpa using this
/-- The packet that the document means. -/
theorem TwoAt.znth (h : TwoAt base w N M R s r Av n sp c xs sr cr zs pa kr) (j : Nat) (hj : j < zs.length) (hg : zs[j].2 = false) (i : Int) (hi : ((alive (zs.take j)).length : Int) = i) : zs[j].1.1 = r.nth i := by
  have h1 := alive_nth j hj hg
  have h2 : ((alive zs).map (·.1))[(alive (zs.take j)).length]? = r.pk[(alive (zs.take j)).length]? := by rw [h.rpk]
  rw [List.getElem?_map, h1] at h2
  unfold FS.nth
  rw [← hi, Int.toNat_natCast, List.getD_eq_getElem?_getD, ← h2]
  rfl
theorem TwoAt.quiet {X : List TypeId} {w' : World} (h : TwoAt base w N M R s r Av n sp c xs sr cr zs pa kr) (hb : Below w.heap.size w w') : Stp base X Av w w' := Stp.ofBelow hb (Nat.le_trans h.net.lowN (Nat.le_of_lt h.net.ltN)) h.avL
theorem TwoAt.oldN (h : TwoAt base w N M R s r Av n sp c xs sr cr zs pa kr) : Two base w N M R s.old r Av := ⟨n, sp, c, xs, sr, cr, zs, pa, kr, { h with net := h.net, nn := Nat.le_succ_of_le h.nn, okN := h.okN.older }⟩
theorem TwoAt.oldR (h : TwoAt base w N M R s r Av n sp c xs sr cr zs pa kr) : Two base w N M R s r.old Av := ⟨n, sp, c, xs, sr, cr, zs, pa, kr, { h with okR := h.okR.older }⟩
theorem TwoAt.putN {w' : World} {sp' : Option Addr} {c' : Nat} {hd : Hdl} {f t : Int} {l : List Nat} (h : TwoAt base w N M R s r Av n sp c xs sr cr zs pa kr) (h2 : NetAt base w' N M n sp' c' (xs ++ [(((s.tot : Int) + 1, f, t, l), hd)]) ((s.tot : Int) + 1) s.S s.ck) (g : NGrew N M w sp w' sp') (hl : ∀ g, blk hd.1 = some g → w.heap.size ≤ g) (hlen : l.length ≤ 65536) (hfu : s.pk.length < 128) : Two base w' N M R (s.put f t l) r Av ∧ Stp base NX Av w w' := by
  refine h.netStep (s' := s.put f t l) (n' := n) (sp' := sp') (c' := c') (xs' := xs ++ [(((s.tot : Int) + 1, f, t, l), hd)]) ?_ g ?_ (Nat.le_succ_of_le h.nn) (h.okN.putOk f t l hlen hfu) ?_
  · have e : ((s.put f t l).tot : Int) = (s.tot : Int) + 1 := by simp only [FS.put]; omega
    rw [e]
    exact h2
  · rw [List.map_append, h.npk]
    rfl
  · intro x hx
    rcases List.mem_append.1 hx with h1 | h1
    · exact .inl h1
    · rw [List.mem_singleton] at h1
      subst h1
      exact .inr hl
theorem two_send (h : Two base w N M R s r Av) (ha : s.age ≤ 900) (f t : Int) (hf : In64 f) (ht : In64 t) (a : Option Addr) (m k : Nat) (l : List Nat) (hm : l.length = m) (hb : BytesAt w a l) (hz : a = none → k = 0) :
    Calls Try.prog 7 #[.pointer (some ⟨N, 0, none⟩), .int .i64 f, .int .i64 t, .slice a m k] w fun e w' => e = .returned (.tuple #[.int .i64 (sendR s f t l).1, .int .i64 ((sendR s f t l).2 : Nat)]) ∧ Two base w' N M R (sendS s f t l) r Av ∧ Stp base NX Av w w' := by
  obtain ⟨n, sp, c, xs, sr, cr, zs, pa, kr, h⟩ := h
  subst hm
  have ho := h.okN.old
  by_cases hX : sendX s.S s.pk.length f t l.length = 0
  · refine (send_fresh h.net f t hf ht a l.length k l rfl hb (h.net.bytes_ne hb) hz (by omega) (by omega) (by rw [h.xlen]; exact hX)).mono ?_
    rintro e w' ⟨rfl, sp', c', hd, h1, g1, l1⟩
    obtain ⟨_, hl, hfu, _⟩ := sendX_zero hX
    have := h.putN h1 g1 l1 hl hfu
    refine ⟨?_, ?_⟩
    · simp only [sendR, if_pos hX]
      rfl
    · simp only [sendS, if_pos hX]
      exact this
  · refine (send_no h.net f t hf ht a l.length k (by rw [h.xlen]; exact hX)).mono ?_
    rintro e w' ⟨rfl, b1⟩
    refine ⟨?_, ?_, h.quiet b1⟩
    · simp only [sendR, if_neg hX]
      rw [h.xlen]
    · simp only [sendS, if_neg hX]
      exact (h.later b1).oldN
theorem TwoAt.putR {w' : World} {sp' : Option Addr} {c' : Nat} {hd : Hdl} {f t : Int} {l : List Nat} (h : TwoAt base w N M R s r Av n sp c xs sr cr zs pa kr) (h2 : RefAt base w' R sp' c' (zs ++ [((((zs.length : Int) + 1, f, t, l), hd), false)]) pa kr) (g : RGrew R w sr w' sp') (hl : ∀ g, blk hd.1 = some g → w.heap.size ≤ g) (hlen : l.length ≤ 65536) (hfu : r.pk.length < 128) : Two base w' N M R s (r.put f t l) Av ∧ Stp base RX Av w w' := by
  refine h.refStep (r' := r.put f t l) h2 g ?_ (h.ids.snoc f t l hd false) ?_ h.par h.clk ?_ (h.okR.putOk f t l hlen hfu) ?_
  · rw [alive_snoc, List.map_append, h.rpk, h.tot]
    rfl
  · rw [List.length_append, h.tot]
    rfl
  · intro z hz
    rcases List.mem_append.1 hz with h1 | h1
    · exact h.len z h1
    · rw [List.mem_singleton] at h1
      subst h1
      exact hlen
  · intro z hz
    rcases List.mem_append.1 hz with h1 | h1
    · exact .inl ⟨z, h1, rfl⟩
    · rw [List.mem_singleton] at h1
      subst h1
      exact .inr hl
theorem TwoAt.rsendX (h : TwoAt base w N M R s r Av n sp c xs sr cr zs pa kr) (f t : Int) (m : Nat) : sendX (paS pa) (alive zs).length f t m = sendX r.S r.pk.length f t m := by
  rw [h.alen]
  exact sendX_congr h.par _ _ _ _
theorem two_rsend (h : Two base w N M R s r Av) (ha : r.age ≤ 900) (f t : Int) (a : Option Addr) (m k : Nat) (l : List Nat) (hm : l.length = m) (hb : BytesAt w a l) (hz : a = none → k = 0) :
    Calls Try.prog 30 #[.pointer (some ⟨R, 0, none⟩), .int .i64 f, .int .i64 t, .slice a m k] w fun e w' => e = .returned (.tuple #[.int .i64 (sendR r f t l).1, .int .i64 ((sendR r f t l).2 : Nat)]) ∧ Two base w' N M R s (sendS r f t l) Av ∧ Stp base RX Av w w' := by
  obtain ⟨n, sp, c, xs, sr, cr, zs, pa, kr, h⟩ := h
  subst hm
  have ho := h.okR.old
  have ht := h.tot
  by_cases hX : sendX r.S r.pk.length f t l.length = 0
  · refine (refSend_fresh h.ref (by omega) f t a l.length k l rfl hb hz (by rw [h.rsendX]; exact hX)).mono ?_
    rintro e w' ⟨rfl, sp', c', hd, h1, g1, l1⟩
    obtain ⟨_, hl, hfu, _⟩ := sendX_zero hX
    have := h.putR h1 g1 l1 hl hfu
    refine ⟨?_, ?_⟩
    · simp only [sendR, if_pos hX]
      rw [ht]
      rfl
    · simp only [sendS, if_pos hX]
      exact this
  · refine (refSend_no h.ref (by omega) f t a l.length k (by rw [h.rsendX]; exact hX)).mono ?_
    rintro e w' ⟨rfl, b1⟩
    refine ⟨?_, ?_, h.quiet b1⟩
    · simp only [sendR, if_neg hX]
      rw [h.rsendX]
    · simp only [sendS, if_neg hX]
      exact (h.later b1).oldR
theorem two_double (h : Two base w N M R s r Av) (ha : s.age ≤ 900) (i : Int) :
    Calls Try.prog 11 #[.pointer (some ⟨N, 0, none⟩), .int .i64 i] w fun e w' => e = .returned (.tuple #[.int .i64 (dblR s i).1, .int .i64 ((dblR s i).2 : Nat)]) ∧ Two base w' N M R (dblS s i) r Av ∧ Stp base NX Av w w' := by
  obtain ⟨n, sp, c, xs, sr, cr, zs, pa, kr, h⟩ := h
  have ho := h.okN.old
  by_cases hX : dblX s.pk.length i = 0
  · obtain ⟨h1, hfu⟩ := dblX_zero hX
    obtain ⟨j, rfl, hj⟩ := hasL_yes h1
    have hjx : j < xs.length := by rw [h.xlen]; exact hj
    have hxe := h.xnth j hjx
    have hle : (s.nth (j : Int)).2.2.2.length ≤ 65536 := by rw [s.nth_mem j hj]; exact h.okN.len _ (List.getElem_mem hj)
    refine (double_fresh h.net j hjx (by rw [h.xlen]; exact hfu) (by omega) (by omega) (by rw [hxe]; omega)).mono ?_
    rintro e w' ⟨rfl, sp', c', hd, h1, g1, l1⟩
    rw [hxe] at h1
    have := h.putN h1 g1 l1 hle hfu
    refine ⟨?_, ?_⟩
    · simp only [dblR, if_pos hX]
      rfl
    · simp only [dblS, if_pos hX]
      exact this
  · refine (double_no h.net i (by rw [doubleX_eq, h.xlen]; exact hX)).mono ?_
    rintro e w' ⟨rfl, rfl⟩
    refine ⟨?_, ?_, h.quiet (Below.refl _ _)⟩
    · simp only [dblR, if_neg hX]
      rw [doubleX_eq, h.xlen]
    · simp only [dblS, if_neg hX]
      exact h.oldN
theorem two_rdouble (h : Two base w N M R s r Av) (ha : r.age ≤ 900) (i : Int) :
    Calls Try.prog 32 #[.pointer (some ⟨R, 0, none⟩), .int .i64 i] w fun e w' => e = .returned (.tuple #[.int .i64 (dblR r i).1, .int .i64 ((dblR r i).2 : Nat)]) ∧ Two base w' N M R s (dblS r i) Av ∧ Stp base RX Av w w' := by
  obtain ⟨n, sp, c, xs, sr, cr, zs, pa, kr, h⟩ := h
  have ho := h.okR.old
  have ht := h.tot
  by_cases hX : dblX r.pk.length i = 0
  · obtain ⟨h1, hfu⟩ := dblX_zero hX
    refine (refDouble_fresh h.ref (by omega) i (by rw [doubleX_eq, h.alen]; exact hX) h.len).mono ?_
    rintro e w' ⟨rfl, j, hj, hg, hi, sp', c', hd, h2, g2, l2⟩
    have hze := h.znth j hj hg i hi
    have hle : (r.nth i).2.2.2.length ≤ 65536 := by rw [← hze]; exact h.len _ (List.getElem_mem hj)
    rw [hze] at h2
    have := h.putR h2 g2 l2 hle hfu
    refine ⟨?_, ?_⟩
    · simp only [dblR, if_pos hX]
      rw [ht]
      rfl
    · simp only [dblS, if_pos hX]
      exact this
  · refine (refDouble_no h.ref (by omega) i (by rw [doubleX_eq, h.alen]; exact hX)).mono ?_
    rintro e w' ⟨rfl, b1⟩
    refine ⟨?_, ?_, h.quiet b1⟩
    · simp only [dblR, if_neg hX]
      rw [doubleX_eq, h.alen]
    · simp only [dblS, if_neg hX]
      exact (h.later b1).oldR
end
end Go.Proofs.Yticemhnfcelpmaa
