/- A deed of kind 0 on both disks. -/
import Derived.Test.YtghdiemihceaoaaDdo
namespace Go.Proofs.Ytghdiemihceaoaa
open Go.ChangeShapes Go.WideShapes Go.ChangeAt Go.RowKit Go.Maps
section
variable {base d M R room N : Nat} {B : List Nat} {w w' : World} {ss tt : Ds}
theorem xor_byte (x k : Nat) (hx : x < 256) (hk : k < 256) : ∃ y : Nat, bits .xor .u8 (x : Int) (k : Int) = (y : Int) ∧ y < 256 := ⟨x ^^^ k, u8_xor_nat x k hx hk, Nat.xor_lt_two_pow (n := 8) hx hk⟩
theorem Two.pushO (h : Two base B w d M R room N ss tt) (hb : Below w.heap.size w w') (o : Option Nat) (ho : ∀ g, o = some g → w.heap.size ≤ g ∧ g < w'.heap.size) : Two base (o.toList ++ B) w' d M R room N ss tt := by
  obtain ⟨fs, sp, c, rs, h, e⟩ := h
  have h2 := h.later hb
  refine ⟨fs, sp, c, rs, ⟨h2.le, h2.few, h2.disk, h2.ref, h2.lowR, h2.fewR, h2.apart, h2.redR, fun g hg => ?_⟩, e⟩
  rcases List.mem_append.1 hg with hg | hg
  · obtain ⟨a1, a2⟩ := ho g (Option.mem_toList.1 hg)
    refine ⟨a2, fun hm => ?_, fun hm => ?_, fun e => ?_, fun hm => ?_⟩
    · have := (h.disk.mut_lt hm).2; omega
    · have := (h.disk.red_lt hm).2; omega
    · have := h.ref.ltR; omega
    · have := (h.ref.foot_lt (.inr hm)).2; omega
  · exact h2.aside g hg
theorem Two.low (h : Two base B w d M R room N ss tt) : ∀ g, g < base ∨ g ∈ B → g < w.heap.size := by
  obtain ⟨fs, sp, c, rs, h, e⟩ := h
  rintro g (hg | hg)
  · exact Nat.lt_of_lt_of_le hg h.le
  · exact (h.aside g hg).1
set_option maxRecDepth 20000 in
set_option maxHeartbeats 40000000 in
theorem do_0 (h : Two base B w d M R room N ss ss) (hN : N + 1 ≤ 300) (nm to : ByteArray) (z : Int) (bs : List Nat) (ks : List Int) (hh : DeH) (hx : DeLow base w ⟨0, nm, to, z, bs, ks⟩ hh) (hsh : bs.length ≤ 4000) :
    Calls Try.prog 15 #[.pointer (some ⟨d, 0, none⟩), .pointer (some ⟨R, 0, none⟩), deVal ⟨0, nm, to, z, bs, ks⟩ hh] w (DoEnd base B d M R room (N + 1) w (dDo room ⟨0, nm, to, z, bs, ks⟩ ss)) := by
  have A1 := hide (show Below w.heap.size w (w.alloc (.cells #[.int .i64 0, .string nm, .string to, .int .i64 z, .slice hh.bp bs.length hh.bc, .slice hh.kp ks.length hh.kc] 31)) from (Below.refl _ _).alloc (Nat.le_refl _) _)
  have T1 := hide (h.push (.cells #[.int .i64 0, .string nm, .string to, .int .i64 z, .slice hh.bp bs.length hh.bc, .slice hh.kp ks.length hh.kc] 31))
  have K1 := hide (h.keeps (unhide A1))
  have X1 := hide (heap_new w (.cells #[.int .i64 0, .string nm, .string to, .int .i64 z, .slice hh.bp bs.length hh.bc, .slice hh.kp ks.length hh.kc] 31))
  have x0 := fcell (unhide X1) 0 _ rfl
  have x1 := fcell (unhide X1) 1 _ rfl
  have x2 := fcell (unhide X1) 2 _ rfl
  have x3 := fcell (unhide X1) 3 _ rfl
  have x4 := fcell (unhide X1) 4 _ rfl
  have x5 := fcell (unhide X1) 5 _ rfl
  have BX := hide (show ∀ W, Keeps base (w.heap.size :: B) (w.alloc (.cells #[.int .i64 0, .string nm, .string to, .int .i64 z, .slice hh.bp bs.length hh.bc, .slice hh.kp ks.length hh.kc] 31)) W → W.heap[w.heap.size]? = some (.cells #[.int .i64 0, .string nm, .string to, .int .i64 z, .slice hh.bp bs.length hh.bc, .slice hh.kp ks.length hh.kc] 31) from fun W hk => (hk.block _ (.inr List.mem_cons_self)).trans (unhide X1))
  have HX := hide hx
  have H := hide h
  have sn : nm.size ≤ maxLen := (hx.at_ w (Below.refl _ _)).sn
  have st : to.size ≤ maxLen := (hx.at_ w (Below.refl _ _)).st
  have hz : z ≤ 9223372036854775807 := (hx.at_ w (Below.refl _ _)).wa.2
  have SN := hide sn
  have ST := hide st
  have HZ := hide hz
  have SH := hide hsh
  have HN := hide hN
  have EN := hide (show ∀ W (s2 : Ds), s2 = dDo room ⟨0, nm, to, z, bs, ks⟩ ss → ∀ N', N' ≤ N + 1 → Two base (w.heap.size :: B) W d M R room N' s2 s2 → Keeps base (w.heap.size :: B) (w.alloc (.cells #[.int .i64 0, .string nm, .string to, .int .i64 z, .slice hh.bp bs.length hh.bc, .slice hh.kp ks.length hh.kc] 31)) W → DoEnd base B d M R room (N + 1) w (dDo room ⟨0, nm, to, z, bs, ks⟩ ss) (.returned (.bool true)) W from fun W s2 e N' hN' hT hk => by
    subst e
    exact ⟨rfl, (hT.mono hN' hN).sub (fun g hg => List.mem_cons_of_mem _ hg), (h.keeps (unhide A1)).trans (hk.sub (fun g hg => List.mem_cons_of_mem _ hg))⟩)
  have TD := hide (show Two base (w.heap.size :: B) (w.alloc (.cells #[.int .i64 0, .string nm, .string to, .int .i64 z, .slice hh.bp bs.length hh.bc, .slice hh.kp ks.length hh.kc] 31)).drew d M R room N ss ss from (unhide T1).later ((Below.refl _ _).drew))
  have DK := hide (show ∀ W, Keeps base (w.heap.size :: B) (w.alloc (.cells #[.int .i64 0, .string nm, .string to, .int .i64 z, .slice hh.bp bs.length hh.bc, .slice hh.kp ks.length hh.kc] 31)).drew W → Keeps base (w.heap.size :: B) (w.alloc (.cells #[.int .i64 0, .string nm, .string to, .int .i64 z, .slice hh.bp bs.length hh.bc, .slice hh.kp ks.length hh.kc] 31)) W from fun W hk => ⟨hk.os, hk.tape, hk.output, hk.size, hk.block⟩)
  clear h hx hsh hN sn st hz
  unfold deVal
  have LOW := hide (unhide T1).low
  have HV := hide (show (w.alloc (.cells #[.int .i64 0, .string nm, .string to, .int .i64 z, .slice hh.bp bs.length hh.bc, .slice hh.kp ks.length hh.kc] 31)).heap.size = w.heap.size + 1 by simp)
  have XA := hide (show ∀ W, Keeps base (w.heap.size :: B) (w.alloc (.cells #[.int .i64 0, .string nm, .string to, .int .i64 z, .slice hh.bp bs.length hh.bc, .slice hh.kp ks.length hh.kc] 31)) W → DeAt W ⟨0, nm, to, z, bs, ks⟩ hh from fun W hk => (unhide HX).at_ W ((unhide K1).below.trans hk.below))
  have TK := hide (fun W (hb : Below (w.alloc (.cells #[.int .i64 0, .string nm, .string to, .int .i64 z, .slice hh.bp bs.length hh.bc, .slice hh.kp ks.length hh.kc] 31)).heap.size (w.alloc (.cells #[.int .i64 0, .string nm, .string to, .int .i64 z, .slice hh.bp bs.length hh.bc, .slice hh.kp ks.length hh.kc] 31)) W) => (unhide T1).keeps hb)
  have SE := hide (show (dWrite room nm.data.toList z bs ss).2 = dDo room ⟨0, nm, to, z, bs, ks⟩ ss from rfl)
  have LCC := hide (fun W B' (hT : Two base B' W d M R room N ss ss) => lwrite_calls hT (unhide HN) nm (unhide SN) z (unhide HZ))
  have MCC := hide (fun W N' (hT : Two base (w.heap.size :: B) W d M R room N' (dWrite room nm.data.toList z bs ss).2 ss) (hB : BytesAt W hh.bp bs) => mwrite_calls nm (unhide SN) z (unhide HZ) hh.bp bs.length hh.bc bs rfl hB (unhide SH) hT)
  have LC2 := hide (fun W B' (hT : Two base B' W d M R room N ss ss) xp xn xc (ho : bs.length = xn) hxc hB hx0 hne hxl => unhide LCC W B' hT xp xn xc bs ho hxc hB hx0 hne hxl)
  generalize (dWrite room nm.data.toList z bs ss) = r at *
  obtain ⟨q, s2⟩ := r
  simp only at SE
  have NN := hide (show N + 1 ≤ N + 1 by omega)
  clear K1 LCC H HX
  go_enter Try.func15, Try.ntmps15
  go_wp2_with (at_builtin; refine unhide ?_)
  refine hide ?_
  generalize w.alloc (.cells #[.int .i64 0, .string nm, .string to, .int .i64 z, .slice hh.bp bs.length hh.bc, .slice hh.kp ks.length hh.kc] 31) = V1 at *
  have A2 := hide (show Below V1.heap.size V1 (V1.alloc (.cells #[] 5)) from (Below.refl _ _).alloc (Nat.le_refl _) _)
  have O2 := hide (show Bx V1.heap.size (V1.alloc (.cells #[] 5)) (some ⟨w.heap.size + 1, 0, none⟩) 0 [] from by rw [← unhide HV]; exact (OwnB.empty V1 V1.heap.size (Nat.le_refl _)).toBx)
  have D2 := hide (unhide XA _ (unhide TK _ (unhide A2)))
  refine wpList_appendBx rfl (.tmp 14) (.tmp 16) rfl V1.heap.size (some ⟨w.heap.size + 1, 0, none⟩) 0 0 [] rfl rfl (unhide O2) hh.bp bs.length hh.bc rfl bs rfl (unhide D2).by_ (unhide D2).bz (by have := unhide SH; simp; omega) (unhide A2).size ?_
  intro sp6 n6 c6 V6 hn6 hX6 hG6
  rw [List.nil_append] at hn6 hX6
  have B6 := hide (show Below V1.heap.size V1 V6 from (unhide A2).grown hG6.grown (unhide A2).size (fun g hg => by have := unhide HV; simp [blk] at hg; omega))
  have X6 := hide hX6
  have T6 := hide ((unhide T1).pushO (unhide B6) (blk sp6) (fun g hg => ⟨(hX6.isT g hg).1, (hX6.isT g hg).2.1⟩))
  have K6 := hide (unhide TK _ (unhide B6))
  have Y1 := unhide BX V6 (unhide K6)
  have v0 := fcell Y1 0 _ rfl
  have v1 := fcell Y1 1 _ rfl
  have v2 := fcell Y1 2 _ rfl
  have v3 := fcell Y1 3 _ rfl
  have v4 := fcell Y1 4 _ rfl
  have v5 := fcell Y1 5 _ rfl
  have LC := hide (unhide LC2 V6 _ (unhide T6) sp6 n6 c6 (unhide hn6) (by have := hX6.cap; rw [unhide hn6] at this; exact this.1) hX6.bytes hX6.nil0 (fun b off e _ => .inr (List.mem_append_left _ (by rw [e]; simp [blk]))) (by have := unhide SH; have := unhide hn6; omega))
  have h6 : n6 ≤ 4000 := by have := unhide SH; have := unhide hn6; omega
  clear hX6 hG6 A2 O2 D2 LC2 Y1 T1 TD DK TK
  go_wp2_with (go_at_call 22; refine (unhide LC).mono ?_; rintro e W ⟨rfl, hT, hk0⟩; have TW := hide hT; have KW0 := hide hk0; clear hT hk0)
  have KW := hide ((unhide K6).trans ((unhide KW0).sub (fun g hg => List.mem_append_right _ hg)))
  have XW := hide ((unhide X6).same (fun g hg => (unhide KW0).block g (.inr (List.mem_append_left _ (by rw [hg]; simp)))))
  go_loopw [9] (fun i wr => ∃ (j : Nat) (l : List Nat), j ≤ n6 ∧ i = .int .i64 (j : Int) ∧ Hid (l.length = n6) ∧ Hid (Bx V1.heap.size wr sp6 c6 l) ∧ Hid (Two base ((blk sp6).toList ++ (w.heap.size :: B)) wr d M R room (N + 1) s2 ss) ∧ Hid (Keeps base (w.heap.size :: B) V1 wr)) (fun i _ => n6 - (intOf i).toNat)
  case atStart => exact ⟨0, bs, by omega, rfl, hn6, XW, TW, KW⟩
  case round =>
    obtain ⟨j, l, hj, rfl, HL, HXX, HT, HK⟩ := hrel
    by_cases hjn : j < n6
    · have hjl : j < l.length := by rw [unhide HL]; exact hjn
      have hj2 : (j : Int) < (n6 : Int) := by omega
      have hj0 : (0 : Int) ≤ (j : Int) := by omega
      obtain ⟨y, hy, hy2⟩ := xor_byte l[j] 51 ((unhide HXX).lt _ (List.getElem_mem hjl)) (by decide)
      obtain ⟨g, rfl, hbg, q0, q1, q2, q3⟩ := (unhide HXX).set j hjl y hy2
      have X2 := hide q2
      have L2 := hide (show (l.set j y).length = n6 by rw [List.length_set]; exact unhide HL)
      have T2 := hide ((unhide HT).byB (g := g) (List.mem_append_left _ (by simp [blk])) q3)
      have K2 := hide ((unhide HK).trans (show Keeps base (w.heap.size :: B) wr _ from ⟨q3.os, q3.tape, q3.output, q3.size, fun i hi => q3.block i (Nat.lt_of_lt_of_le (unhide LOW i hi) (unhide HK).size) (fun e => by
        have := Option.some.inj e
        have := unhide LOW i hi
        omega)⟩))
      have hy' : bits .xor .u8 ((l[j] : Nat) : Int) 51 = (y : Int) := hy
      have q0' : wr.cell? ⟨g, j, none⟩ = some (.int .u8 (l[j] : Int)) := q0
      clear hy q0 q2 q3
      generalize l[j] = xx at hy' q0'
      go_wp2
      exact ⟨⟨j + 1, l.set j y, by omega, by go_num, unhide L2, unhide X2, unhide T2, unhide K2⟩, by simp [intOf]; omega⟩
    · have hj2 : ¬ (j : Int) < (n6 : Int) := by omega
      have Y3 := unhide BX wr (unhide HK)
      have t0 := fcell Y3 0 _ rfl
      have t1 := fcell Y3 1 _ rfl
      have t2 := fcell Y3 2 _ rfl
      have t3 := fcell Y3 3 _ rfl
      have t4 := fcell Y3 4 _ rfl
      have t5 := fcell Y3 5 _ rfl
      have T9 := hide ((unhide HT).sub (fun g hg => List.mem_append_right _ hg))
      have MC := hide (unhide MCC wr _ (unhide T9) (unhide XA wr (unhide HK)).by_)
      clear Y3
      go_wp2_with (go_at_call 35; refine (unhide MC).mono ?_; rintro e W2 ⟨rfl, hT2, hk2⟩; have E3 := hide (unhide EN W2 _ (unhide SE) _ (unhide NN) hT2 ((unhide HK).trans hk2)); clear hT2 hk2)
      go_ret
      exact unhide E3
end
end Go.Proofs.Ytghdiemihceaoaa
