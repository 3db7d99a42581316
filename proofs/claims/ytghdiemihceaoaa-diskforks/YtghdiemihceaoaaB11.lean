/- A deed on both disks. -/
import Derived.Test.YtghdiemihceaoaaB10
import Derived.Test.YtghdiemihceaoaaB06
import Derived.BigQuiet
section
namespace Go.Proofs.Ytghdiemihceaoaa
open Go.ChangeShapes Go.WideShapes Go.ChangeAt Go.RowKit Go.Maps

/-- What a deed does to a disk, by the document. -/
def dDo (room : Nat) (e : De) (ss : Ds) : Ds :=
  if e.kind = 0 then (dWrite room e.name.data.toList e.at_ e.bs ss).2 else
  if e.kind = 1 then (dCut e.name.data.toList e.at_ ss).2 else
  if e.kind = 2 then (dSync e.name.data.toList ss).2 else
  if e.kind = 3 then (dRename e.name.data.toList e.to.data.toList ss).2 else
  if e.kind = 4 then (dRemove e.name.data.toList ss).2 else
  if e.kind = 5 then crashS e.keep 0 ss else ss
/-- A deed that lies below base. -/
structure DeLow (base : Nat) (w : World) (e : De) (h : DeH) : Prop where
  at_ : ∀ W, Below base w W → DeAt W e h
  lb : ∀ b off, h.bp = some ⟨b, off, none⟩ → 0 < e.bs.length → b < base
  lk : ∀ b off, h.kp = some ⟨b, off, none⟩ → 0 < e.keep.length → b < base
theorem DeLow.below {base : Nat} {w w' : World} {e : De} {h : DeH} (x : DeLow base w e h) (hb : Below base w w') : DeLow base w' e h := ⟨fun W hW => x.at_ W (hb.trans hW), x.lb, x.lk⟩
theorem BytesAt.lowB {w : World} {a : Option Addr} {l : List Nat} (h : BytesAt w a l) (b off : Nat) (e : a = some ⟨b, off, none⟩) (h0 : 0 < l.length) : b < w.heap.size := by
  obtain ⟨b', off', e', hc⟩ := h.cell 0 h0
  rw [e] at e'
  simp only [Option.some.injEq, Addr.mk.injEq] at e'
  obtain ⟨rfl, rfl, _⟩ := e'
  exact World.block_lt_of_cell? _ _ hc
theorem IntsAt.lowB {w : World} {a : Option Addr} {l : List Int} (h : IntsAt w a l) (b off : Nat) (e : a = some ⟨b, off, none⟩) (h0 : 0 < l.length) : b < w.heap.size := by
  obtain ⟨b', off', e', hc⟩ := h.cell 0 h0
  rw [e] at e'
  simp only [Option.some.injEq, Addr.mk.injEq] at e'
  obtain ⟨rfl, rfl, _⟩ := e'
  exact World.block_lt_of_cell? _ _ hc
theorem DeLow.of {w : World} {e : De} {h : DeH} (x : DeAt w e h) : DeLow w.heap.size w e h := ⟨fun _ hb => x.later hb, fun b off e' h0 => x.by_.lowB b off e' h0, fun b off e' h0 => x.ks.lowB b off e' h0⟩
section
variable {base d M R room N : Nat} {B : List Nat} {w w' : World} {ss tt : Ds}
theorem Two.keeps (h : Two base B w d M R room N ss tt) (hb : Below w.heap.size w w') : Keeps base B w w' := by
  obtain ⟨fs, sp, c, rs, h, _⟩ := h
  refine ⟨hb.os, hb.tape, hb.output, hb.size, fun g hg => hb.block g ?_⟩
  rcases hg with hg | hg
  · exact Nat.lt_of_lt_of_le hg h.le
  · exact (h.aside g hg).1
def DoEnd (base : Nat) (B : List Nat) (d M R room N : Nat) (w : World) (ss : Ds) (r : Ending) (w' : World) : Prop := r = .returned (.bool true) ∧ Two base B w' d M R room N ss ss ∧ Keeps base B w w'
end
end Go.Proofs.Ytghdiemihceaoaa
end
/- A deed of kind 0 on both disks. -/
section
namespace Go.Proofs.Ytghdiemihceaoaa
open Go.ChangeShapes Go.WideShapes Go.ChangeAt Go.RowKit Go.Maps
section
variable {base d M R room N : Nat} {B : List Nat} {w w' : World} {ss tt : Ds}
theorem xor_byte (x k : Nat) (hx : x < 256) (hk : k < 256) : ∃ y : Nat, bits .xor .u8 (x : Int) (k : Int) = (y : Int) ∧ y < 256 := ⟨x ^^^ k, u8_xor_nat x k hx hk, Nat.xor_lt_two_pow (n := 8) hx hk⟩
theorem Two.pushO (h : Two base B w d M R room N ss tt) (hb : Below w.heap.size w w') (o : Option Nat) (ho : ∀ g, o = some g → w.heap.size ≤ g ∧ g < w'.heap.size) : Two base (o.toList ++ B) w' d M R room N ss tt := by
  obtain ⟨fs, sp, c, rs, h, e⟩ := h
  have h2 := h.later hb
  refine ⟨fs, sp, c, rs, ⟨h2.le, h2.few, h2.disk, h2.ref, h2.lowR, h2.fewR, h2.apart, h2.redR, fun g hg => ?_⟩, e⟩
  rcases List.mem_append.1 hg with hg | hg
  · obtain ⟨a1, a2⟩ := ho g (Option.mem_toList.1 hg)
    refine ⟨a2, fun hm => ?_, fun hm => ?_, fun e => ?_, fun hm => ?_⟩
    · have := (h.disk.mut_lt hm).2; omega
    · have := (h.disk.red_lt hm).2; omega
    · have := h.ref.ltR; omega
    · have := (h.ref.foot_lt (.inr hm)).2; omega
  · exact h2.aside g hg
theorem Two.low (h : Two base B w d M R room N ss tt) : ∀ g, g < base ∨ g ∈ B → g < w.heap.size := by
  obtain ⟨fs, sp, c, rs, h, e⟩ := h
  rintro g (hg | hg)
  · exact Nat.lt_of_lt_of_le hg h.le
  · exact (h.aside g hg).1
set_option maxRecDepth 20000 in
set_option maxHeartbeats 40000000 in
theorem do_0 (h : Two base B w d M R room N ss ss) (hN : N + 1 ≤ 300) (nm to : ByteArray) (z : Int) (bs : List Nat) (ks : List Int) (hh : DeH) (hx : DeLow base w ⟨0, nm, to, z, bs, ks⟩ hh) (hsh : bs.length ≤ 4000) :
    Calls Try.prog 15 #[.pointer (some ⟨d, 0, none⟩), .pointer (some ⟨R, 0, none⟩), deVal ⟨0, nm, to, z, bs, ks⟩ hh] w (DoEnd base B d M R room (N + 1) w (dDo room ⟨0, nm, to, z, bs, ks⟩ ss)) := by
  have A1 := hide (show Below w.heap.size w (w.alloc (.cells #[.int .i64 0, .string nm, .string to, .int .i64 z, .slice hh.bp bs.length hh.bc, .slice hh.kp ks.length hh.kc] 31)) from (Below.refl _ _).alloc (Nat.le_refl _) _)
  have T1 := hide (h.push (.cells #[.int .i64 0, .string nm, .string to, .int .i64 z, .slice hh.bp bs.length hh.bc, .slice hh.kp ks.length hh.kc] 31))
  have K1 := hide (h.keeps (unhide A1))
  have X1 := hide (heap_new w (.cells #[.int .i64 0, .string nm, .string to, .int .i64 z, .slice hh.bp bs.length hh.bc, .slice hh.kp ks.length hh.kc] 31))
  have x0 := fcell (unhide X1) 0 _ rfl
  have x1 := fcell (unhide X1) 1 _ rfl
  have x2 := fcell (unhide X1) 2 _ rfl
  have x3 := fcell (unhide X1) 3 _ rfl
  have x4 := fcell (unhide X1) 4 _ rfl
  have x5 := fcell (unhide X1) 5 _ rfl
  have BX := hide (show ∀ W, Keeps base (w.heap.size :: B) (w.alloc (.cells #[.int .i64 0, .string nm, .string to, .int .i64 z, .slice hh.bp bs.length hh.bc, .slice hh.kp ks.length hh.kc] 31)) W → W.heap[w.heap.size]? = some (.cells #[.int .i64 0, .string nm, .string to, .int .i64 z, .slice hh.bp bs.length hh.bc, .slice hh.kp ks.length hh.kc] 31) from fun W hk => (hk.block _ (.inr List.mem_cons_self)).trans (unhide X1))
  have HX := hide hx
  have H := hide h
  have sn : nm.size ≤ maxLen := (hx.at_ w (Below.refl _ _)).sn
  have st : to.size ≤ maxLen := (hx.at_ w (Below.refl _ _)).st
  have hz : z ≤ 9223372036854775807 := (hx.at_ w (Below.refl _ _)).wa.2
  have SN := hide sn
  have ST := hide st
  have HZ := hide hz
  have SH := hide hsh
  have HN := hide hN
  have EN := hide (show ∀ W (s2 : Ds), s2 = dDo room ⟨0, nm, to, z, bs, ks⟩ ss → ∀ N', N' ≤ N + 1 → Two base (w.heap.size :: B) W d M R room N' s2 s2 → Keeps base (w.heap.size :: B) (w.alloc (.cells #[.int .i64 0, .string nm, .string to, .int .i64 z, .slice hh.bp bs.length hh.bc, .slice hh.kp ks.length hh.kc] 31)) W → DoEnd base B d M R room (N + 1) w (dDo room ⟨0, nm, to, z, bs, ks⟩ ss) (.returned (.bool true)) W from fun W s2 e N' hN' hT hk => by
    subst e
    exact ⟨rfl, (hT.mono hN' hN).sub (fun g hg => List.mem_cons_of_mem _ hg), (h.keeps (unhide A1)).trans (hk.sub (fun g hg => List.mem_cons_of_mem _ hg))⟩)
  have TD := hide (show Two base (w.heap.size :: B) (w.alloc (.cells #[.int .i64 0, .string nm, .string to, .int .i64 z, .slice hh.bp bs.length hh.bc, .slice hh.kp ks.length hh.kc] 31)).drew d M R room N ss ss from (unhide T1).later ((Below.refl _ _).drew))
  have DK := hide (show ∀ W, Keeps base (w.heap.size :: B) (w.alloc (.cells #[.int .i64 0, .string nm, .string to, .int .i64 z, .slice hh.bp bs.length hh.bc, .slice hh.kp ks.length hh.kc] 31)).drew W → Keeps base (w.heap.size :: B) (w.alloc (.cells #[.int .i64 0, .string nm, .string to, .int .i64 z, .slice hh.bp bs.length hh.bc, .slice hh.kp ks.length hh.kc] 31)) W from fun W hk => ⟨hk.os, hk.tape, hk.output, hk.size, hk.block⟩)
  clear h hx hsh hN sn st hz
  unfold deVal
  have LOW := hide (unhide T1).low
  have HV := hide (show (w.alloc (.cells #[.int .i64 0, .string nm, .string to, .int .i64 z, .slice hh.bp bs.length hh.bc, .slice hh.kp ks.length hh.kc] 31)).heap.size = w.heap.size + 1 by simp)
  have XA := hide (show ∀ W, Keeps base (w.heap.size :: B) (w.alloc (.cells #[.int .i64 0, .string nm, .string to, .int .i64 z, .slice hh.bp bs.length hh.bc, .slice hh.kp ks.length hh.kc] 31)) W → DeAt W ⟨0, nm, to, z, bs, ks⟩ hh from fun W hk => (unhide HX).at_ W ((unhide K1).below.trans hk.below))
  have TK := hide (fun W (hb : Below (w.alloc (.cells #[.int .i64 0, .string nm, .string to, .int .i64 z, .slice hh.bp bs.length hh.bc, .slice hh.kp ks.length hh.kc] 31)).heap.size (w.alloc (.cells #[.int .i64 0, .string nm, .string to, .int .i64 z, .slice hh.bp bs.length hh.bc, .slice hh.kp ks.length hh.kc] 31)) W) => (unhide T1).keeps hb)
  have SE := hide (show (dWrite room nm.data.toList z bs ss).2 = dDo room ⟨0, nm, to, z, bs, ks⟩ ss from rfl)
  have LCC := hide (fun W B' (hT : Two base B' W d M R room N ss ss) => lwrite_calls hT (unhide HN) nm (unhide SN) z (unhide HZ))
  have MCC := hide (fun W N' (hT : Two base (w.heap.size :: B) W d M R room N' (dWrite room nm.data.toList z bs ss).2 ss) (hB : BytesAt W hh.bp bs) => mwrite_calls nm (unhide SN) z (unhide HZ) hh.bp bs.length hh.bc bs rfl hB (unhide SH) hT)
  have LC2 := hide (fun W B' (hT : Two base B' W d M R room N ss ss) xp xn xc (ho : bs.length = xn) hxc hB hx0 hne hxl => unhide LCC W B' hT xp xn xc bs ho hxc hB hx0 hne hxl)
  generalize (dWrite room nm.data.toList z bs ss) = r at *
  obtain ⟨q, s2⟩ := r
  simp only at SE
  have NN := hide (show N + 1 ≤ N + 1 by omega)
  clear K1 LCC H HX
  go_enter Try.func15, Try.ntmps15
  go_wp2_with (at_builtin; refine unhide ?_)
  refine hide ?_
  generalize w.alloc (.cells #[.int .i64 0, .string nm, .string to, .int .i64 z, .slice hh.bp bs.length hh.bc, .slice hh.kp ks.length hh.kc] 31) = V1 at *
  have A2 := hide (show Below V1.heap.size V1 (V1.alloc (.cells #[] 5)) from (Below.refl _ _).alloc (Nat.le_refl _) _)
  have O2 := hide (show Bx V1.heap.size (V1.alloc (.cells #[] 5)) (some ⟨w.heap.size + 1, 0, none⟩) 0 [] from by rw [← unhide HV]; exact (OwnB.empty V1 V1.heap.size (Nat.le_refl _)).toBx)
  have D2 := hide (unhide XA _ (unhide TK _ (unhide A2)))
  refine wpList_appendBx rfl (.tmp 14) (.tmp 16) rfl V1.heap.size (some ⟨w.heap.size + 1, 0, none⟩) 0 0 [] rfl rfl (unhide O2) hh.bp bs.length hh.bc rfl bs rfl (unhide D2).by_ (unhide D2).bz (by have := unhide SH; simp; omega) (unhide A2).size ?_
  intro sp6 n6 c6 V6 hn6 hX6 hG6
  rw [List.nil_append] at hn6 hX6
  have B6 := hide (show Below V1.heap.size V1 V6 from (unhide A2).grown hG6.grown (unhide A2).size (fun g hg => by have := unhide HV; simp [blk] at hg; omega))
  have X6 := hide hX6
  have T6 := hide ((unhide T1).pushO (unhide B6) (blk sp6) (fun g hg => ⟨(hX6.isT g hg).1, (hX6.isT g hg).2.1⟩))
  have K6 := hide (unhide TK _ (unhide B6))
  have Y1 := unhide BX V6 (unhide K6)
  have v0 := fcell Y1 0 _ rfl
  have v1 := fcell Y1 1 _ rfl
  have v2 := fcell Y1 2 _ rfl
  have v3 := fcell Y1 3 _ rfl
  have v4 := fcell Y1 4 _ rfl
  have v5 := fcell Y1 5 _ rfl
  have LC := hide (unhide LC2 V6 _ (unhide T6) sp6 n6 c6 (unhide hn6) (by have := hX6.cap; rw [unhide hn6] at this; exact this.1) hX6.bytes hX6.nil0 (fun b off e _ => .inr (List.mem_append_left _ (by rw [e]; simp [blk]))) (by have := unhide SH; have := unhide hn6; omega))
  have h6 : n6 ≤ 4000 := by have := unhide SH; have := unhide hn6; omega
  clear hX6 hG6 A2 O2 D2 LC2 Y1 T1 TD DK TK
  go_wp2_with (go_at_call 22; refine (unhide LC).mono ?_; rintro e W ⟨rfl, hT, hk0⟩; have TW := hide hT; have KW0 := hide hk0; clear hT hk0)
  have KW := hide ((unhide K6).trans ((unhide KW0).sub (fun g hg => List.mem_append_right _ hg)))
  have XW := hide ((unhide X6).same (fun g hg => (unhide KW0).block g (.inr (List.mem_append_left _ (by rw [hg]; simp)))))
  go_loopw [9] (fun i wr => ∃ (j : Nat) (l : List Nat), j ≤ n6 ∧ i = .int .i64 (j : Int) ∧ Hid (l.length = n6) ∧ Hid (Bx V1.heap.size wr sp6 c6 l) ∧ Hid (Two base ((blk sp6).toList ++ (w.heap.size :: B)) wr d M R room (N + 1) s2 ss) ∧ Hid (Keeps base (w.heap.size :: B) V1 wr)) (fun i _ => n6 - (intOf i).toNat)
  case atStart => exact ⟨0, bs, by omega, rfl, hn6, XW, TW, KW⟩
  case round =>
    obtain ⟨j, l, hj, rfl, HL, HXX, HT, HK⟩ := hrel
    by_cases hjn : j < n6
    · have hjl : j < l.length := by rw [unhide HL]; exact hjn
      have hj2 : (j : Int) < (n6 : Int) := by omega
      have hj0 : (0 : Int) ≤ (j : Int) := by omega
      obtain ⟨y, hy, hy2⟩ := xor_byte l[j] 51 ((unhide HXX).lt _ (List.getElem_mem hjl)) (by decide)
      obtain ⟨g, rfl, hbg, q0, q1, q2, q3⟩ := (unhide HXX).set j hjl y hy2
      have X2 := hide q2
      have L2 := hide (show (l.set j y).length = n6 by rw [List.length_set]; exact unhide HL)
      have T2 := hide ((unhide HT).byB (g := g) (List.mem_append_left _ (by simp [blk])) q3)
      have K2 := hide ((unhide HK).trans (show Keeps base (w.heap.size :: B) wr _ from ⟨q3.os, q3.tape, q3.output, q3.size, fun i hi => q3.block i (Nat.lt_of_lt_of_le (unhide LOW i hi) (unhide HK).size) (fun e => by
        have := Option.some.inj e
        have := unhide LOW i hi
        omega)⟩))
      have hy' : bits .xor .u8 ((l[j] : Nat) : Int) 51 = (y : Int) := hy
      have q0' : wr.cell? ⟨g, j, none⟩ = some (.int .u8 (l[j] : Int)) := q0
      clear hy q0 q2 q3
      generalize l[j] = xx at hy' q0'
      go_wp2
      exact ⟨⟨j + 1, l.set j y, by omega, by go_num, unhide L2, unhide X2, unhide T2, unhide K2⟩, by simp [intOf]; omega⟩
    · have hj2 : ¬ (j : Int) < (n6 : Int) := by omega
      have Y3 := unhide BX wr (unhide HK)
      have t0 := fcell Y3 0 _ rfl
      have t1 := fcell Y3 1 _ rfl
      have t2 := fcell Y3 2 _ rfl
      have t3 := fcell Y3 3 _ rfl
      have t4 := fcell Y3 4 _ rfl
      have t5 := fcell Y3 5 _ rfl
      have T9 := hide ((unhide HT).sub (fun g hg => List.mem_append_right _ hg))
      have MC := hide (unhide MCC wr _ (unhide T9) (unhide XA wr (unhide HK)).by_)
      clear Y3
      go_wp2_with (go_at_call 35; refine (unhide MC).mono ?_; rintro e W2 ⟨rfl, hT2, hk2⟩; have E3 := hide (unhide EN W2 _ (unhide SE) _ (unhide NN) hT2 ((unhide HK).trans hk2)); clear hT2 hk2)
      go_ret
      exact unhide E3
end
end Go.Proofs.Ytghdiemihceaoaa
end
/- A deed of kind 1 on both disks. -/
section
namespace Go.Proofs.Ytghdiemihceaoaa
open Go.ChangeShapes Go.WideShapes Go.ChangeAt Go.RowKit Go.Maps
section
variable {base d M R room N : Nat} {B : List Nat} {w w' : World} {ss tt : Ds}
set_option maxRecDepth 20000 in
set_option maxHeartbeats 40000000 in
theorem do_1 (h : Two base B w d M R room N ss ss) (hN : N + 1 ≤ 300) (nm to : ByteArray) (z : Int) (bs : List Nat) (ks : List Int) (hh : DeH) (hx : DeLow base w ⟨1, nm, to, z, bs, ks⟩ hh) (hsh : bs.length ≤ 4000) :
    Calls Try.prog 15 #[.pointer (some ⟨d, 0, none⟩), .pointer (some ⟨R, 0, none⟩), deVal ⟨1, nm, to, z, bs, ks⟩ hh] w (DoEnd base B d M R room (N + 1) w (dDo room ⟨1, nm, to, z, bs, ks⟩ ss)) := by
  have A1 := hide (show Below w.heap.size w (w.alloc (.cells #[.int .i64 1, .string nm, .string to, .int .i64 z, .slice hh.bp bs.length hh.bc, .slice hh.kp ks.length hh.kc] 31)) from (Below.refl _ _).alloc (Nat.le_refl _) _)
  have T1 := hide (h.push (.cells #[.int .i64 1, .string nm, .string to, .int .i64 z, .slice hh.bp bs.length hh.bc, .slice hh.kp ks.length hh.kc] 31))
  have K1 := hide (h.keeps (unhide A1))
  have X1 := hide (heap_new w (.cells #[.int .i64 1, .string nm, .string to, .int .i64 z, .slice hh.bp bs.length hh.bc, .slice hh.kp ks.length hh.kc] 31))
  have x0 := fcell (unhide X1) 0 _ rfl
  have x1 := fcell (unhide X1) 1 _ rfl
  have x2 := fcell (unhide X1) 2 _ rfl
  have x3 := fcell (unhide X1) 3 _ rfl
  have x4 := fcell (unhide X1) 4 _ rfl
  have x5 := fcell (unhide X1) 5 _ rfl
  have BX := hide (show ∀ W, Keeps base (w.heap.size :: B) (w.alloc (.cells #[.int .i64 1, .string nm, .string to, .int .i64 z, .slice hh.bp bs.length hh.bc, .slice hh.kp ks.length hh.kc] 31)) W → W.heap[w.heap.size]? = some (.cells #[.int .i64 1, .string nm, .string to, .int .i64 z, .slice hh.bp bs.length hh.bc, .slice hh.kp ks.length hh.kc] 31) from fun W hk => (hk.block _ (.inr List.mem_cons_self)).trans (unhide X1))
  have HX := hide hx
  have H := hide h
  have sn : nm.size ≤ maxLen := (hx.at_ w (Below.refl _ _)).sn
  have st : to.size ≤ maxLen := (hx.at_ w (Below.refl _ _)).st
  have hz : z ≤ 9223372036854775807 := (hx.at_ w (Below.refl _ _)).wa.2
  have SN := hide sn
  have ST := hide st
  have HZ := hide hz
  have SH := hide hsh
  have HN := hide hN
  have EN := hide (show ∀ W (s2 : Ds), s2 = dDo room ⟨1, nm, to, z, bs, ks⟩ ss → ∀ N', N' ≤ N + 1 → Two base (w.heap.size :: B) W d M R room N' s2 s2 → Keeps base (w.heap.size :: B) (w.alloc (.cells #[.int .i64 1, .string nm, .string to, .int .i64 z, .slice hh.bp bs.length hh.bc, .slice hh.kp ks.length hh.kc] 31)) W → DoEnd base B d M R room (N + 1) w (dDo room ⟨1, nm, to, z, bs, ks⟩ ss) (.returned (.bool true)) W from fun W s2 e N' hN' hT hk => by
    subst e
    exact ⟨rfl, (hT.mono hN' hN).sub (fun g hg => List.mem_cons_of_mem _ hg), (h.keeps (unhide A1)).trans (hk.sub (fun g hg => List.mem_cons_of_mem _ hg))⟩)
  have TD := hide (show Two base (w.heap.size :: B) (w.alloc (.cells #[.int .i64 1, .string nm, .string to, .int .i64 z, .slice hh.bp bs.length hh.bc, .slice hh.kp ks.length hh.kc] 31)).drew d M R room N ss ss from (unhide T1).later ((Below.refl _ _).drew))
  have DK := hide (show ∀ W, Keeps base (w.heap.size :: B) (w.alloc (.cells #[.int .i64 1, .string nm, .string to, .int .i64 z, .slice hh.bp bs.length hh.bc, .slice hh.kp ks.length hh.kc] 31)).drew W → Keeps base (w.heap.size :: B) (w.alloc (.cells #[.int .i64 1, .string nm, .string to, .int .i64 z, .slice hh.bp bs.length hh.bc, .slice hh.kp ks.length hh.kc] 31)) W from fun W hk => ⟨hk.os, hk.tape, hk.output, hk.size, hk.block⟩)
  clear h hx hsh hN sn st hz
  unfold deVal
  have LC := hide (lcut_calls (unhide TD) (unhide HN) nm (unhide SN) z)
  have SE := hide (show (dCut nm.data.toList z ss).2 = dDo room ⟨1, nm, to, z, bs, ks⟩ ss from rfl)
  have MCC := hide (fun W N' (hT : Two base (w.heap.size :: B) W d M R room N' (dCut nm.data.toList z ss).2 ss) => mcut_calls nm z hT)
  generalize (dCut nm.data.toList z ss) = r at *
  obtain ⟨q, s2⟩ := r
  simp only at SE
  have NN := hide (show N + 1 ≤ N + 1 by omega)
  clear T1 K1
  go_enter Try.func15, Try.ntmps15
  go_wp2_with fail
  generalize w.alloc (.cells #[.int .i64 1, .string nm, .string to, .int .i64 z, .slice hh.bp bs.length hh.bc, .slice hh.kp ks.length hh.kc] 31) = V1 at *
  go_region_law (first
    | (go_simp
       go_at_call 24
       refine (unhide LC).mono ?_
       rintro e W ⟨rfl, hT, hk0⟩
       have KW := hide (unhide DK W hk0)
       have Y1 := unhide BX W (unhide KW)
       have v0 := fcell Y1 0 _ rfl
       have v1 := fcell Y1 1 _ rfl
       have v2 := fcell Y1 2 _ rfl
       have v3 := fcell Y1 3 _ rfl
       have v4 := fcell Y1 4 _ rfl
       have v5 := fcell Y1 5 _ rfl
       have MC := hide (unhide MCC W _ hT)
       clear hT hk0 Y1)
    | (go_simp
       go_at_call 36
       refine (unhide MC).mono ?_
       rintro e W2 ⟨rfl, hT2, hk2⟩
       have E3 := hide (unhide EN W2 _ (unhide SE) _ (unhide NN) hT2 ((unhide KW).trans hk2))
       have Y2 := unhide BX W2 ((unhide KW).trans hk2)
       have t0 := fcell Y2 0 _ rfl
       have t1 := fcell Y2 1 _ rfl
       have t2 := fcell Y2 2 _ rfl
       have t3 := fcell Y2 3 _ rfl
       have t4 := fcell Y2 4 _ rfl
       have t5 := fcell Y2 5 _ rfl
       clear hT2 hk2 Y2))
  all_goals
    go_wp2
    go_ret
    exact unhide E3
end
end Go.Proofs.Ytghdiemihceaoaa
end
/- A deed of kind 2 on both disks. -/
section
namespace Go.Proofs.Ytghdiemihceaoaa
open Go.ChangeShapes Go.WideShapes Go.ChangeAt Go.RowKit Go.Maps
section
variable {base d M R room N : Nat} {B : List Nat} {w w' : World} {ss tt : Ds}
set_option maxRecDepth 20000 in
set_option maxHeartbeats 40000000 in
theorem do_2 (h : Two base B w d M R room N ss ss) (hN : N + 1 ≤ 300) (nm to : ByteArray) (z : Int) (bs : List Nat) (ks : List Int) (hh : DeH) (hx : DeLow base w ⟨2, nm, to, z, bs, ks⟩ hh) (hsh : bs.length ≤ 4000) :
    Calls Try.prog 15 #[.pointer (some ⟨d, 0, none⟩), .pointer (some ⟨R, 0, none⟩), deVal ⟨2, nm, to, z, bs, ks⟩ hh] w (DoEnd base B d M R room (N + 1) w (dDo room ⟨2, nm, to, z, bs, ks⟩ ss)) := by
  have A1 := hide (show Below w.heap.size w (w.alloc (.cells #[.int .i64 2, .string nm, .string to, .int .i64 z, .slice hh.bp bs.length hh.bc, .slice hh.kp ks.length hh.kc] 31)) from (Below.refl _ _).alloc (Nat.le_refl _) _)
  have T1 := hide (h.push (.cells #[.int .i64 2, .string nm, .string to, .int .i64 z, .slice hh.bp bs.length hh.bc, .slice hh.kp ks.length hh.kc] 31))
  have K1 := hide (h.keeps (unhide A1))
  have X1 := hide (heap_new w (.cells #[.int .i64 2, .string nm, .string to, .int .i64 z, .slice hh.bp bs.length hh.bc, .slice hh.kp ks.length hh.kc] 31))
  have x0 := fcell (unhide X1) 0 _ rfl
  have x1 := fcell (unhide X1) 1 _ rfl
  have x2 := fcell (unhide X1) 2 _ rfl
  have x3 := fcell (unhide X1) 3 _ rfl
  have x4 := fcell (unhide X1) 4 _ rfl
  have x5 := fcell (unhide X1) 5 _ rfl
  have BX := hide (show ∀ W, Keeps base (w.heap.size :: B) (w.alloc (.cells #[.int .i64 2, .string nm, .string to, .int .i64 z, .slice hh.bp bs.length hh.bc, .slice hh.kp ks.length hh.kc] 31)) W → W.heap[w.heap.size]? = some (.cells #[.int .i64 2, .string nm, .string to, .int .i64 z, .slice hh.bp bs.length hh.bc, .slice hh.kp ks.length hh.kc] 31) from fun W hk => (hk.block _ (.inr List.mem_cons_self)).trans (unhide X1))
  have HX := hide hx
  have H := hide h
  have sn : nm.size ≤ maxLen := (hx.at_ w (Below.refl _ _)).sn
  have st : to.size ≤ maxLen := (hx.at_ w (Below.refl _ _)).st
  have hz : z ≤ 9223372036854775807 := (hx.at_ w (Below.refl _ _)).wa.2
  have SN := hide sn
  have ST := hide st
  have HZ := hide hz
  have SH := hide hsh
  have HN := hide hN
  have EN := hide (show ∀ W (s2 : Ds), s2 = dDo room ⟨2, nm, to, z, bs, ks⟩ ss → ∀ N', N' ≤ N + 1 → Two base (w.heap.size :: B) W d M R room N' s2 s2 → Keeps base (w.heap.size :: B) (w.alloc (.cells #[.int .i64 2, .string nm, .string to, .int .i64 z, .slice hh.bp bs.length hh.bc, .slice hh.kp ks.length hh.kc] 31)) W → DoEnd base B d M R room (N + 1) w (dDo room ⟨2, nm, to, z, bs, ks⟩ ss) (.returned (.bool true)) W from fun W s2 e N' hN' hT hk => by
    subst e
    exact ⟨rfl, (hT.mono hN' hN).sub (fun g hg => List.mem_cons_of_mem _ hg), (h.keeps (unhide A1)).trans (hk.sub (fun g hg => List.mem_cons_of_mem _ hg))⟩)
  have TD := hide (show Two base (w.heap.size :: B) (w.alloc (.cells #[.int .i64 2, .string nm, .string to, .int .i64 z, .slice hh.bp bs.length hh.bc, .slice hh.kp ks.length hh.kc] 31)).drew d M R room N ss ss from (unhide T1).later ((Below.refl _ _).drew))
  have DK := hide (show ∀ W, Keeps base (w.heap.size :: B) (w.alloc (.cells #[.int .i64 2, .string nm, .string to, .int .i64 z, .slice hh.bp bs.length hh.bc, .slice hh.kp ks.length hh.kc] 31)).drew W → Keeps base (w.heap.size :: B) (w.alloc (.cells #[.int .i64 2, .string nm, .string to, .int .i64 z, .slice hh.bp bs.length hh.bc, .slice hh.kp ks.length hh.kc] 31)) W from fun W hk => ⟨hk.os, hk.tape, hk.output, hk.size, hk.block⟩)
  clear h hx hsh hN sn st hz
  unfold deVal
  have LC := hide (lsync_calls (unhide TD) nm (unhide SN))
  have SE := hide (show (dSync nm.data.toList ss).2 = dDo room ⟨2, nm, to, z, bs, ks⟩ ss from rfl)
  have MCC := hide (fun W N' (hT : Two base (w.heap.size :: B) W d M R room N' (dSync nm.data.toList ss).2 ss) => msync_calls nm hT)
  generalize (dSync nm.data.toList ss) = r at *
  obtain ⟨q, s2⟩ := r
  simp only at SE
  have NN := hide (show N ≤ N + 1 by omega)
  clear T1 K1
  go_enter Try.func15, Try.ntmps15
  go_wp2_with fail
  generalize w.alloc (.cells #[.int .i64 2, .string nm, .string to, .int .i64 z, .slice hh.bp bs.length hh.bc, .slice hh.kp ks.length hh.kc] 31) = V1 at *
  go_region_law (first
    | (go_simp
       go_at_call 23
       refine (unhide LC).mono ?_
       rintro e W ⟨rfl, hT, hk0⟩
       have KW := hide (unhide DK W hk0)
       have Y1 := unhide BX W (unhide KW)
       have v0 := fcell Y1 0 _ rfl
       have v1 := fcell Y1 1 _ rfl
       have v2 := fcell Y1 2 _ rfl
       have v3 := fcell Y1 3 _ rfl
       have v4 := fcell Y1 4 _ rfl
       have v5 := fcell Y1 5 _ rfl
       have MC := hide (unhide MCC W _ hT)
       clear hT hk0 Y1)
    | (go_simp
       go_at_call 37
       refine (unhide MC).mono ?_
       rintro e W2 ⟨rfl, hT2, hk2⟩
       have E3 := hide (unhide EN W2 _ (unhide SE) _ (unhide NN) hT2 ((unhide KW).trans hk2))
       have Y2 := unhide BX W2 ((unhide KW).trans hk2)
       have t0 := fcell Y2 0 _ rfl
       have t1 := fcell Y2 1 _ rfl
       have t2 := fcell Y2 2 _ rfl
       have t3 := fcell Y2 3 _ rfl
       have t4 := fcell Y2 4 _ rfl
       have t5 := fcell Y2 5 _ rfl
       clear hT2 hk2 Y2))
  all_goals
    go_wp2
    go_ret
    exact unhide E3
end
end Go.Proofs.Ytghdiemihceaoaa
end
/- A deed of kind 3 on both disks. -/
section
namespace Go.Proofs.Ytghdiemihceaoaa
open Go.ChangeShapes Go.WideShapes Go.ChangeAt Go.RowKit Go.Maps
section
variable {base d M R room N : Nat} {B : List Nat} {w w' : World} {ss tt : Ds}
set_option maxRecDepth 20000 in
set_option maxHeartbeats 40000000 in
theorem do_3 (h : Two base B w d M R room N ss ss) (hN : N + 1 ≤ 300) (nm to : ByteArray) (z : Int) (bs : List Nat) (ks : List Int) (hh : DeH) (hx : DeLow base w ⟨3, nm, to, z, bs, ks⟩ hh) (hsh : bs.length ≤ 4000) :
    Calls Try.prog 15 #[.pointer (some ⟨d, 0, none⟩), .pointer (some ⟨R, 0, none⟩), deVal ⟨3, nm, to, z, bs, ks⟩ hh] w (DoEnd base B d M R room (N + 1) w (dDo room ⟨3, nm, to, z, bs, ks⟩ ss)) := by
  have A1 := hide (show Below w.heap.size w (w.alloc (.cells #[.int .i64 3, .string nm, .string to, .int .i64 z, .slice hh.bp bs.length hh.bc, .slice hh.kp ks.length hh.kc] 31)) from (Below.refl _ _).alloc (Nat.le_refl _) _)
  have T1 := hide (h.push (.cells #[.int .i64 3, .string nm, .string to, .int .i64 z, .slice hh.bp bs.length hh.bc, .slice hh.kp ks.length hh.kc] 31))
  have K1 := hide (h.keeps (unhide A1))
  have X1 := hide (heap_new w (.cells #[.int .i64 3, .string nm, .string to, .int .i64 z, .slice hh.bp bs.length hh.bc, .slice hh.kp ks.length hh.kc] 31))
  have x0 := fcell (unhide X1) 0 _ rfl
  have x1 := fcell (unhide X1) 1 _ rfl
  have x2 := fcell (unhide X1) 2 _ rfl
  have x3 := fcell (unhide X1) 3 _ rfl
  have x4 := fcell (unhide X1) 4 _ rfl
  have x5 := fcell (unhide X1) 5 _ rfl
  have BX := hide (show ∀ W, Keeps base (w.heap.size :: B) (w.alloc (.cells #[.int .i64 3, .string nm, .string to, .int .i64 z, .slice hh.bp bs.length hh.bc, .slice hh.kp ks.length hh.kc] 31)) W → W.heap[w.heap.size]? = some (.cells #[.int .i64 3, .string nm, .string to, .int .i64 z, .slice hh.bp bs.length hh.bc, .slice hh.kp ks.length hh.kc] 31) from fun W hk => (hk.block _ (.inr List.mem_cons_self)).trans (unhide X1))
  have HX := hide hx
  have H := hide h
  have sn : nm.size ≤ maxLen := (hx.at_ w (Below.refl _ _)).sn
  have st : to.size ≤ maxLen := (hx.at_ w (Below.refl _ _)).st
  have hz : z ≤ 9223372036854775807 := (hx.at_ w (Below.refl _ _)).wa.2
  have SN := hide sn
  have ST := hide st
  have HZ := hide hz
  have SH := hide hsh
  have HN := hide hN
  have EN := hide (show ∀ W (s2 : Ds), s2 = dDo room ⟨3, nm, to, z, bs, ks⟩ ss → ∀ N', N' ≤ N + 1 → Two base (w.heap.size :: B) W d M R room N' s2 s2 → Keeps base (w.heap.size :: B) (w.alloc (.cells #[.int .i64 3, .string nm, .string to, .int .i64 z, .slice hh.bp bs.length hh.bc, .slice hh.kp ks.length hh.kc] 31)) W → DoEnd base B d M R room (N + 1) w (dDo room ⟨3, nm, to, z, bs, ks⟩ ss) (.returned (.bool true)) W from fun W s2 e N' hN' hT hk => by
    subst e
    exact ⟨rfl, (hT.mono hN' hN).sub (fun g hg => List.mem_cons_of_mem _ hg), (h.keeps (unhide A1)).trans (hk.sub (fun g hg => List.mem_cons_of_mem _ hg))⟩)
  have TD := hide (show Two base (w.heap.size :: B) (w.alloc (.cells #[.int .i64 3, .string nm, .string to, .int .i64 z, .slice hh.bp bs.length hh.bc, .slice hh.kp ks.length hh.kc] 31)).drew d M R room N ss ss from (unhide T1).later ((Below.refl _ _).drew))
  have DK := hide (show ∀ W, Keeps base (w.heap.size :: B) (w.alloc (.cells #[.int .i64 3, .string nm, .string to, .int .i64 z, .slice hh.bp bs.length hh.bc, .slice hh.kp ks.length hh.kc] 31)).drew W → Keeps base (w.heap.size :: B) (w.alloc (.cells #[.int .i64 3, .string nm, .string to, .int .i64 z, .slice hh.bp bs.length hh.bc, .slice hh.kp ks.length hh.kc] 31)) W from fun W hk => ⟨hk.os, hk.tape, hk.output, hk.size, hk.block⟩)
  clear h hx hsh hN sn st hz
  unfold deVal
  have LC := hide (lrename_calls (unhide TD) nm to (unhide SN) (unhide ST))
  have SE := hide (show (dRename nm.data.toList to.data.toList ss).2 = dDo room ⟨3, nm, to, z, bs, ks⟩ ss from rfl)
  have MCC := hide (fun W N' (hT : Two base (w.heap.size :: B) W d M R room N' (dRename nm.data.toList to.data.toList ss).2 ss) => mrename_calls nm to (unhide ST) hT)
  generalize (dRename nm.data.toList to.data.toList ss) = r at *
  obtain ⟨q, s2⟩ := r
  simp only at SE
  have NN := hide (show N ≤ N + 1 by omega)
  clear T1 K1
  go_enter Try.func15, Try.ntmps15
  go_wp2_with fail
  generalize w.alloc (.cells #[.int .i64 3, .string nm, .string to, .int .i64 z, .slice hh.bp bs.length hh.bc, .slice hh.kp ks.length hh.kc] 31) = V1 at *
  go_region_law (first
    | (go_simp
       go_at_call 25
       refine (unhide LC).mono ?_
       rintro e W ⟨rfl, hT, hk0⟩
       have KW := hide (unhide DK W hk0)
       have Y1 := unhide BX W (unhide KW)
       have v0 := fcell Y1 0 _ rfl
       have v1 := fcell Y1 1 _ rfl
       have v2 := fcell Y1 2 _ rfl
       have v3 := fcell Y1 3 _ rfl
       have v4 := fcell Y1 4 _ rfl
       have v5 := fcell Y1 5 _ rfl
       have MC := hide (unhide MCC W _ hT)
       clear hT hk0 Y1)
    | (go_simp
       go_at_call 38
       refine (unhide MC).mono ?_
       rintro e W2 ⟨rfl, hT2, hk2⟩
       have E3 := hide (unhide EN W2 _ (unhide SE) _ (unhide NN) hT2 ((unhide KW).trans hk2))
       have Y2 := unhide BX W2 ((unhide KW).trans hk2)
       have t0 := fcell Y2 0 _ rfl
       have t1 := fcell Y2 1 _ rfl
       have t2 := fcell Y2 2 _ rfl
       have t3 := fcell Y2 3 _ rfl
       have t4 := fcell Y2 4 _ rfl
       have t5 := fcell Y2 5 _ rfl
       clear hT2 hk2 Y2))
  all_goals
    go_wp2
    go_ret
    exact unhide E3
end
end Go.Proofs.Ytghdiemihceaoaa
end
/- A deed of kind 4 on both disks. -/
section
namespace Go.Proofs.Ytghdiemihceaoaa
open Go.ChangeShapes Go.WideShapes Go.ChangeAt Go.RowKit Go.Maps
section
variable {base d M R room N : Nat} {B : List Nat} {w w' : World} {ss tt : Ds}
set_option maxRecDepth 20000 in
set_option maxHeartbeats 40000000 in
theorem do_4 (h : Two base B w d M R room N ss ss) (hN : N + 1 ≤ 300) (nm to : ByteArray) (z : Int) (bs : List Nat) (ks : List Int) (hh : DeH) (hx : DeLow base w ⟨4, nm, to, z, bs, ks⟩ hh) (hsh : bs.length ≤ 4000) :
    Calls Try.prog 15 #[.pointer (some ⟨d, 0, none⟩), .pointer (some ⟨R, 0, none⟩), deVal ⟨4, nm, to, z, bs, ks⟩ hh] w (DoEnd base B d M R room (N + 1) w (dDo room ⟨4, nm, to, z, bs, ks⟩ ss)) := by
  have A1 := hide (show Below w.heap.size w (w.alloc (.cells #[.int .i64 4, .string nm, .string to, .int .i64 z, .slice hh.bp bs.length hh.bc, .slice hh.kp ks.length hh.kc] 31)) from (Below.refl _ _).alloc (Nat.le_refl _) _)
  have T1 := hide (h.push (.cells #[.int .i64 4, .string nm, .string to, .int .i64 z, .slice hh.bp bs.length hh.bc, .slice hh.kp ks.length hh.kc] 31))
  have K1 := hide (h.keeps (unhide A1))
  have X1 := hide (heap_new w (.cells #[.int .i64 4, .string nm, .string to, .int .i64 z, .slice hh.bp bs.length hh.bc, .slice hh.kp ks.length hh.kc] 31))
  have x0 := fcell (unhide X1) 0 _ rfl
  have x1 := fcell (unhide X1) 1 _ rfl
  have x2 := fcell (unhide X1) 2 _ rfl
  have x3 := fcell (unhide X1) 3 _ rfl
  have x4 := fcell (unhide X1) 4 _ rfl
  have x5 := fcell (unhide X1) 5 _ rfl
  have BX := hide (show ∀ W, Keeps base (w.heap.size :: B) (w.alloc (.cells #[.int .i64 4, .string nm, .string to, .int .i64 z, .slice hh.bp bs.length hh.bc, .slice hh.kp ks.length hh.kc] 31)) W → W.heap[w.heap.size]? = some (.cells #[.int .i64 4, .string nm, .string to, .int .i64 z, .slice hh.bp bs.length hh.bc, .slice hh.kp ks.length hh.kc] 31) from fun W hk => (hk.block _ (.inr List.mem_cons_self)).trans (unhide X1))
  have HX := hide hx
  have H := hide h
  have sn : nm.size ≤ maxLen := (hx.at_ w (Below.refl _ _)).sn
  have st : to.size ≤ maxLen := (hx.at_ w (Below.refl _ _)).st
  have hz : z ≤ 9223372036854775807 := (hx.at_ w (Below.refl _ _)).wa.2
  have SN := hide sn
  have ST := hide st
  have HZ := hide hz
  have SH := hide hsh
  have HN := hide hN
  have EN := hide (show ∀ W (s2 : Ds), s2 = dDo room ⟨4, nm, to, z, bs, ks⟩ ss → ∀ N', N' ≤ N + 1 → Two base (w.heap.size :: B) W d M R room N' s2 s2 → Keeps base (w.heap.size :: B) (w.alloc (.cells #[.int .i64 4, .string nm, .string to, .int .i64 z, .slice hh.bp bs.length hh.bc, .slice hh.kp ks.length hh.kc] 31)) W → DoEnd base B d M R room (N + 1) w (dDo room ⟨4, nm, to, z, bs, ks⟩ ss) (.returned (.bool true)) W from fun W s2 e N' hN' hT hk => by
    subst e
    exact ⟨rfl, (hT.mono hN' hN).sub (fun g hg => List.mem_cons_of_mem _ hg), (h.keeps (unhide A1)).trans (hk.sub (fun g hg => List.mem_cons_of_mem _ hg))⟩)
  have TD := hide (show Two base (w.heap.size :: B) (w.alloc (.cells #[.int .i64 4, .string nm, .string to, .int .i64 z, .slice hh.bp bs.length hh.bc, .slice hh.kp ks.length hh.kc] 31)).drew d M R room N ss ss from (unhide T1).later ((Below.refl _ _).drew))
  have DK := hide (show ∀ W, Keeps base (w.heap.size :: B) (w.alloc (.cells #[.int .i64 4, .string nm, .string to, .int .i64 z, .slice hh.bp bs.length hh.bc, .slice hh.kp ks.length hh.kc] 31)).drew W → Keeps base (w.heap.size :: B) (w.alloc (.cells #[.int .i64 4, .string nm, .string to, .int .i64 z, .slice hh.bp bs.length hh.bc, .slice hh.kp ks.length hh.kc] 31)) W from fun W hk => ⟨hk.os, hk.tape, hk.output, hk.size, hk.block⟩)
  clear h hx hsh hN sn st hz
  unfold deVal
  have LC := hide (lremove_calls (unhide TD) nm (unhide SN))
  have SE := hide (show (dRemove nm.data.toList ss).2 = dDo room ⟨4, nm, to, z, bs, ks⟩ ss from rfl)
  have MCC := hide (fun W N' (hT : Two base (w.heap.size :: B) W d M R room N' (dRemove nm.data.toList ss).2 ss) => mremove_calls nm hT)
  generalize (dRemove nm.data.toList ss) = r at *
  obtain ⟨q, s2⟩ := r
  simp only at SE
  have NN := hide (show N ≤ N + 1 by omega)
  clear T1 K1
  go_enter Try.func15, Try.ntmps15
  go_wp2_with fail
  generalize w.alloc (.cells #[.int .i64 4, .string nm, .string to, .int .i64 z, .slice hh.bp bs.length hh.bc, .slice hh.kp ks.length hh.kc] 31) = V1 at *
  go_region_law (first
    | (go_simp
       go_at_call 21
       refine (unhide LC).mono ?_
       rintro e W ⟨rfl, hT, hk0⟩
       have KW := hide (unhide DK W hk0)
       have Y1 := unhide BX W (unhide KW)
       have v0 := fcell Y1 0 _ rfl
       have v1 := fcell Y1 1 _ rfl
       have v2 := fcell Y1 2 _ rfl
       have v3 := fcell Y1 3 _ rfl
       have v4 := fcell Y1 4 _ rfl
       have v5 := fcell Y1 5 _ rfl
       have MC := hide (unhide MCC W _ hT)
       clear hT hk0 Y1)
    | (go_simp
       go_at_call 39
       refine (unhide MC).mono ?_
       rintro e W2 ⟨rfl, hT2, hk2⟩
       have E3 := hide (unhide EN W2 _ (unhide SE) _ (unhide NN) hT2 ((unhide KW).trans hk2))
       have Y2 := unhide BX W2 ((unhide KW).trans hk2)
       have t0 := fcell Y2 0 _ rfl
       have t1 := fcell Y2 1 _ rfl
       have t2 := fcell Y2 2 _ rfl
       have t3 := fcell Y2 3 _ rfl
       have t4 := fcell Y2 4 _ rfl
       have t5 := fcell Y2 5 _ rfl
       clear hT2 hk2 Y2))
  all_goals
    go_wp2
    go_ret
    exact unhide E3
end
end Go.Proofs.Ytghdiemihceaoaa
end
/- A deed of kind 5 on both disks. -/
section
namespace Go.Proofs.Ytghdiemihceaoaa
open Go.ChangeShapes Go.WideShapes Go.ChangeAt Go.RowKit Go.Maps
section
variable {base d M R room N : Nat} {B : List Nat} {w w' : World} {ss tt : Ds}
set_option maxRecDepth 20000 in
set_option maxHeartbeats 40000000 in
theorem do_5 (h : Two base B w d M R room N ss ss) (hN : N + 1 ≤ 300) (nm to : ByteArray) (z : Int) (bs : List Nat) (ks : List Int) (hh : DeH) (hx : DeLow base w ⟨5, nm, to, z, bs, ks⟩ hh) (hsh : bs.length ≤ 4000) :
    Calls Try.prog 15 #[.pointer (some ⟨d, 0, none⟩), .pointer (some ⟨R, 0, none⟩), deVal ⟨5, nm, to, z, bs, ks⟩ hh] w (DoEnd base B d M R room (N + 1) w (dDo room ⟨5, nm, to, z, bs, ks⟩ ss)) := by
  have A1 := hide (show Below w.heap.size w (w.alloc (.cells #[.int .i64 5, .string nm, .string to, .int .i64 z, .slice hh.bp bs.length hh.bc, .slice hh.kp ks.length hh.kc] 31)) from (Below.refl _ _).alloc (Nat.le_refl _) _)
  have T1 := hide (h.push (.cells #[.int .i64 5, .string nm, .string to, .int .i64 z, .slice hh.bp bs.length hh.bc, .slice hh.kp ks.length hh.kc] 31))
  have K1 := hide (h.keeps (unhide A1))
  have X1 := hide (heap_new w (.cells #[.int .i64 5, .string nm, .string to, .int .i64 z, .slice hh.bp bs.length hh.bc, .slice hh.kp ks.length hh.kc] 31))
  have x0 := fcell (unhide X1) 0 _ rfl
  have x1 := fcell (unhide X1) 1 _ rfl
  have x2 := fcell (unhide X1) 2 _ rfl
  have x3 := fcell (unhide X1) 3 _ rfl
  have x4 := fcell (unhide X1) 4 _ rfl
  have x5 := fcell (unhide X1) 5 _ rfl
  have BX := hide (show ∀ W, Keeps base (w.heap.size :: B) (w.alloc (.cells #[.int .i64 5, .string nm, .string to, .int .i64 z, .slice hh.bp bs.length hh.bc, .slice hh.kp ks.length hh.kc] 31)) W → W.heap[w.heap.size]? = some (.cells #[.int .i64 5, .string nm, .string to, .int .i64 z, .slice hh.bp bs.length hh.bc, .slice hh.kp ks.length hh.kc] 31) from fun W hk => (hk.block _ (.inr List.mem_cons_self)).trans (unhide X1))
  have HX := hide hx
  have H := hide h
  have sn : nm.size ≤ maxLen := (hx.at_ w (Below.refl _ _)).sn
  have st : to.size ≤ maxLen := (hx.at_ w (Below.refl _ _)).st
  have hz : z ≤ 9223372036854775807 := (hx.at_ w (Below.refl _ _)).wa.2
  have SN := hide sn
  have ST := hide st
  have HZ := hide hz
  have SH := hide hsh
  have HN := hide hN
  have EN := hide (show ∀ W (s2 : Ds), s2 = dDo room ⟨5, nm, to, z, bs, ks⟩ ss → ∀ N', N' ≤ N + 1 → Two base (w.heap.size :: B) W d M R room N' s2 s2 → Keeps base (w.heap.size :: B) (w.alloc (.cells #[.int .i64 5, .string nm, .string to, .int .i64 z, .slice hh.bp bs.length hh.bc, .slice hh.kp ks.length hh.kc] 31)) W → DoEnd base B d M R room (N + 1) w (dDo room ⟨5, nm, to, z, bs, ks⟩ ss) (.returned (.bool true)) W from fun W s2 e N' hN' hT hk => by
    subst e
    exact ⟨rfl, (hT.mono hN' hN).sub (fun g hg => List.mem_cons_of_mem _ hg), (h.keeps (unhide A1)).trans (hk.sub (fun g hg => List.mem_cons_of_mem _ hg))⟩)
  have TD := hide (show Two base (w.heap.size :: B) (w.alloc (.cells #[.int .i64 5, .string nm, .string to, .int .i64 z, .slice hh.bp bs.length hh.bc, .slice hh.kp ks.length hh.kc] 31)).drew d M R room N ss ss from (unhide T1).later ((Below.refl _ _).drew))
  have DK := hide (show ∀ W, Keeps base (w.heap.size :: B) (w.alloc (.cells #[.int .i64 5, .string nm, .string to, .int .i64 z, .slice hh.bp bs.length hh.bc, .slice hh.kp ks.length hh.kc] 31)).drew W → Keeps base (w.heap.size :: B) (w.alloc (.cells #[.int .i64 5, .string nm, .string to, .int .i64 z, .slice hh.bp bs.length hh.bc, .slice hh.kp ks.length hh.kc] 31)) W from fun W hk => ⟨hk.os, hk.tape, hk.output, hk.size, hk.block⟩)
  clear h hx hsh hN sn st hz
  unfold deVal
  have KA := hide (show ∀ W, Keeps base (w.heap.size :: B) (w.alloc (.cells #[.int .i64 5, .string nm, .string to, .int .i64 z, .slice hh.bp bs.length hh.bc, .slice hh.kp ks.length hh.kc] 31)) W → IntsAt W hh.kp ks from fun W hk => ((unhide HX).at_ W ((unhide K1).below.trans hk.below)).ks)
  have LC := hide (lcrash_calls (unhide T1) hh.kp ks.length hh.kc ks rfl (unhide KA _ (Keeps.refl _ _ _)) (unhide HX).lk)
  have SE := hide (show crashS ks 0 ss = dDo room ⟨5, nm, to, z, bs, ks⟩ ss from rfl)
  have NN := hide (show N ≤ N + 1 by omega)
  clear K1
  go_enter Try.func15, Try.ntmps15
  go_wp2_with (first
    | (go_at_call 26
       refine (unhide LC).mono ?_
       rintro e W ⟨rfl, hT, hk0⟩
       have KW := hide hk0
       have Y1 := unhide BX W hk0
       have v0 := fcell Y1 0 _ rfl
       have v1 := fcell Y1 1 _ rfl
       have v2 := fcell Y1 2 _ rfl
       have v3 := fcell Y1 3 _ rfl
       have v4 := fcell Y1 4 _ rfl
       have v5 := fcell Y1 5 _ rfl
       have MC := hide (mcrash_calls hh.kp ks.length hh.kc ks rfl (unhide KA W hk0) hT)
       clear hT hk0 Y1)
    | (go_at_call 33
       refine (unhide MC).mono ?_
       rintro e W2 ⟨rfl, hT2, hk2⟩
       have E3 := hide (unhide EN W2 _ (unhide SE) _ (unhide NN) hT2 ((unhide KW).trans hk2))
       clear hT2 hk2))
  go_ret
  exact unhide E3
end
end Go.Proofs.Ytghdiemihceaoaa
end
/- A deed of kind 6 on both disks. -/
section
namespace Go.Proofs.Ytghdiemihceaoaa
open Go.ChangeShapes Go.WideShapes Go.ChangeAt Go.RowKit Go.Maps
section
variable {base d M R room N : Nat} {B : List Nat} {w w' : World} {ss tt : Ds}
set_option maxRecDepth 20000 in
set_option maxHeartbeats 40000000 in
theorem do_6 (h : Two base B w d M R room N ss ss) (hN : N + 1 ≤ 300) (kd : Int) (hk : ∀ i : Int, 0 ≤ i → i ≤ 5 → kd ≠ i) (nm to : ByteArray) (z : Int) (bs : List Nat) (ks : List Int) (hh : DeH) (hx : DeLow base w ⟨kd, nm, to, z, bs, ks⟩ hh) (hsh : bs.length ≤ 4000) :
    Calls Try.prog 15 #[.pointer (some ⟨d, 0, none⟩), .pointer (some ⟨R, 0, none⟩), deVal ⟨kd, nm, to, z, bs, ks⟩ hh] w (DoEnd base B d M R room (N + 1) w (dDo room ⟨kd, nm, to, z, bs, ks⟩ ss)) := by
  have A1 := hide (show Below w.heap.size w (w.alloc (.cells #[.int .i64 kd, .string nm, .string to, .int .i64 z, .slice hh.bp bs.length hh.bc, .slice hh.kp ks.length hh.kc] 31)) from (Below.refl _ _).alloc (Nat.le_refl _) _)
  have T1 := hide (h.push (.cells #[.int .i64 kd, .string nm, .string to, .int .i64 z, .slice hh.bp bs.length hh.bc, .slice hh.kp ks.length hh.kc] 31))
  have K1 := hide (h.keeps (unhide A1))
  have X1 := hide (heap_new w (.cells #[.int .i64 kd, .string nm, .string to, .int .i64 z, .slice hh.bp bs.length hh.bc, .slice hh.kp ks.length hh.kc] 31))
  have x0 := fcell (unhide X1) 0 _ rfl
  have x1 := fcell (unhide X1) 1 _ rfl
  have x2 := fcell (unhide X1) 2 _ rfl
  have x3 := fcell (unhide X1) 3 _ rfl
  have x4 := fcell (unhide X1) 4 _ rfl
  have x5 := fcell (unhide X1) 5 _ rfl
  have BX := hide (show ∀ W, Keeps base (w.heap.size :: B) (w.alloc (.cells #[.int .i64 kd, .string nm, .string to, .int .i64 z, .slice hh.bp bs.length hh.bc, .slice hh.kp ks.length hh.kc] 31)) W → W.heap[w.heap.size]? = some (.cells #[.int .i64 kd, .string nm, .string to, .int .i64 z, .slice hh.bp bs.length hh.bc, .slice hh.kp ks.length hh.kc] 31) from fun W hk => (hk.block _ (.inr List.mem_cons_self)).trans (unhide X1))
  have HX := hide hx
  have H := hide h
  have sn : nm.size ≤ maxLen := (hx.at_ w (Below.refl _ _)).sn
  have st : to.size ≤ maxLen := (hx.at_ w (Below.refl _ _)).st
  have hz : z ≤ 9223372036854775807 := (hx.at_ w (Below.refl _ _)).wa.2
  have SN := hide sn
  have ST := hide st
  have HZ := hide hz
  have SH := hide hsh
  have HN := hide hN
  have EN := hide (show ∀ W (s2 : Ds), s2 = dDo room ⟨kd, nm, to, z, bs, ks⟩ ss → ∀ N', N' ≤ N + 1 → Two base (w.heap.size :: B) W d M R room N' s2 s2 → Keeps base (w.heap.size :: B) (w.alloc (.cells #[.int .i64 kd, .string nm, .string to, .int .i64 z, .slice hh.bp bs.length hh.bc, .slice hh.kp ks.length hh.kc] 31)) W → DoEnd base B d M R room (N + 1) w (dDo room ⟨kd, nm, to, z, bs, ks⟩ ss) (.returned (.bool true)) W from fun W s2 e N' hN' hT hk => by
    subst e
    exact ⟨rfl, (hT.mono hN' hN).sub (fun g hg => List.mem_cons_of_mem _ hg), (h.keeps (unhide A1)).trans (hk.sub (fun g hg => List.mem_cons_of_mem _ hg))⟩)
  have TD := hide (show Two base (w.heap.size :: B) (w.alloc (.cells #[.int .i64 kd, .string nm, .string to, .int .i64 z, .slice hh.bp bs.length hh.bc, .slice hh.kp ks.length hh.kc] 31)).drew d M R room N ss ss from (unhide T1).later ((Below.refl _ _).drew))
  have DK := hide (show ∀ W, Keeps base (w.heap.size :: B) (w.alloc (.cells #[.int .i64 kd, .string nm, .string to, .int .i64 z, .slice hh.bp bs.length hh.bc, .slice hh.kp ks.length hh.kc] 31)).drew W → Keeps base (w.heap.size :: B) (w.alloc (.cells #[.int .i64 kd, .string nm, .string to, .int .i64 z, .slice hh.bp bs.length hh.bc, .slice hh.kp ks.length hh.kc] 31)) W from fun W hk => ⟨hk.os, hk.tape, hk.output, hk.size, hk.block⟩)
  clear h hx hsh hN sn st hz
  unfold deVal
  have E3 := hide (unhide EN _ ss (by
    unfold dDo
    rw [if_neg (hk 0 (by omega) (by omega)), if_neg (hk 1 (by omega) (by omega)), if_neg (hk 2 (by omega) (by omega)), if_neg (hk 3 (by omega) (by omega)), if_neg (hk 4 (by omega) (by omega)), if_neg (hk 5 (by omega) (by omega))]) N (by omega) (unhide T1) (Keeps.refl _ _ _))
  have k0 : (kd == 0) = false := by have := hk 0 (by omega) (by omega); simpa using this
  have k1 : (kd == 1) = false := by have := hk 1 (by omega) (by omega); simpa using this
  have k2 : (kd == 2) = false := by have := hk 2 (by omega) (by omega); simpa using this
  have k3 : (kd == 3) = false := by have := hk 3 (by omega) (by omega); simpa using this
  have k4 : (kd == 4) = false := by have := hk 4 (by omega) (by omega); simpa using this
  have k5 : (kd == 5) = false := by have := hk 5 (by omega) (by omega); simpa using this
  clear hk
  go_enter Try.func15, Try.ntmps15
  go_wp2
  go_ret
  exact unhide E3
end
end Go.Proofs.Ytghdiemihceaoaa
end
/- The two disks tell the same of all. -/
section
namespace Go.Proofs.Ytghdiemihceaoaa
open Go.ChangeShapes Go.WideShapes Go.ChangeAt Go.RowKit Go.Maps

set_option maxRecDepth 20000 in
set_option maxHeartbeats 4000000 in
theorem sameTexts_yes (b1 b2 : Nat) (w : World) (l : List Nm) (n : Nat) (hn : l.length = n) (h16 : n ≤ 1000) (a b : Option Addr) (ca cb : Nat) (A : OwnN b1 w a ca l) (Bq : OwnN b2 w b cb l) :
    Calls Try.prog 29 #[.slice a n ca, .slice b n cb] w fun e w' => e = .returned (.bool true) ∧ Below w.heap.size w w' := by
  have HA := hide (fun W (hb : Below w.heap.size w W) => A.later hb)
  have HB := hide (fun W (hb : Below w.heap.size w W) => Bq.later hb)
  have HN := hide hn
  clear A Bq hn
  go_enter Try.func29, Try.ntmps29
  go_wp2_with fail
  go_loopw [5] (fun i wr => ∃ j : Nat, j ≤ n ∧ i = .int .i64 (j : Int) ∧ Hid (Below w.heap.size w wr)) (fun i _ => n - (intOf i).toNat)
  case atStart => exact ⟨0, by omega, rfl, hide (Below.refl _ _)⟩
  case round =>
    obtain ⟨j, hj, rfl, HW⟩ := hrel
    by_cases hjn : j < n
    · have y1 : (j : Int) < (n : Int) := by omega
      have y0 : (0 : Int) ≤ (j : Int) := by omega
      have hjl : j < l.length := by rw [unhide HN]; exact hjn
      obtain ⟨g1, rfl, q1⟩ := (unhide HA wr (unhide HW)).cell j hjl
      obtain ⟨g2, rfl, q2⟩ := (unhide HB wr (unhide HW)).cell j hjl
      generalize str l[j] = s at *
      clear hjl
      go_wp2_with fail
      go_quiet (fail)
      go_wp2
      exact ⟨⟨j + 1, by omega, by go_num, hide ((unhide HW).trans ⟨rfl, rfl, rfl, Nat.le_refl _, fun _ _ => rfl⟩)⟩, by simp [intOf]; omega⟩
    · have y1 : ¬ (j : Int) < (n : Int) := by omega
      go_wp2
      go_ret
      exact ⟨rfl, unhide HW⟩
section
variable {base d M R room N : Nat} {B : List Nat} {w w' : World} {ss tt : Ds}
/-- What Sure tells of a file. -/
def sureL (x : Sp) : List Nat := if x.la = true then x.y else []
def sureE (x : Sp) : Int := if x.la = true then 0 else 8
theorem Two.names_le (h : Two base B w d M R room N ss tt) : ∀ x ∈ ss, x.1.length ≤ 64 := by
  obtain ⟨fs, sp, c, rs, h, rfl, rfl⟩ := h
  intro x hx
  obtain ⟨y, hy, rfl⟩ := List.mem_map.1 hx
  exact h.disk.names y hy
theorem Two.few16 (h : Two base B w d M R room N ss tt) : ss.length ≤ 16 := by
  obtain ⟨fs, sp, c, rs, h, rfl, rfl⟩ := h
  simp only [sps, List.length_map]
  exact h.disk.few
theorem Two.riseS (h : Two base B w d M R room N ss tt) : Rises ss := by
  obtain ⟨fs, sp, c, rs, h, rfl, rfl⟩ := h
  exact h.disk.riseS
theorem str_small (k : Nm) (hk : k.length ≤ 64) : (str k).size ≤ maxLen := by
  show k.toArray.size ≤ maxLen
  simp only [List.size_toArray, maxLen]
  omega
theorem lread_calls (h : Two base B w d M R room N ss tt) (k : Nm) (hk : k.length ≤ 64) (x : Sp) (hx : getS k ss = some x) :
    Calls Try.prog 17 #[.pointer (some ⟨d, 0, none⟩), .string (str k)] w fun e w' => ∃ sp n c, e = .returned (.tuple #[.slice sp n c, .int .i64 0]) ∧ x.now.length = n ∧ BytesAt w' sp x.now ∧ Below w.heap.size w w' := by
  obtain ⟨fs, sp, c, rs, h, rfl, rfl⟩ := h
  rw [sps_get, Option.map_eq_some_iff] at hx
  obtain ⟨⟨F, f⟩, hf, rfl⟩ := hx
  refine (dread_yes h.disk (str k) (str_small k hk) F f (by rw [str_list]; exact hf)).mono ?_
  rintro e w' ⟨sp', n, rfl, hn, _, hX, hb⟩
  exact ⟨sp', n, n, rfl, hn, hX.bytes, hb⟩
theorem mread_calls (h : Two base B w d M R room N ss tt) (k : Nm) (x : Sp) (hx : getS k tt = some x) :
    Calls Try.prog 18 #[.pointer (some ⟨R, 0, none⟩), .string (str k)] w fun e w' => ∃ sp n c, e = .returned (.tuple #[.slice sp n c, .int .i64 0]) ∧ x.now.length = n ∧ BytesAt w' sp x.now ∧ Below w.heap.size w w' := by
  obtain ⟨fs, sp, c, rs, h, rfl, rfl⟩ := h
  refine (rread_yes h.ref (str k) x (by rw [str_list]; exact hx)).mono ?_
  rintro e w' ⟨sp', n, c', rfl, hn, hX, hb⟩
  exact ⟨sp', n, c', rfl, hn, hX.bytes, hb⟩
theorem lsure_calls (h : Two base B w d M R room N ss tt) (k : Nm) (hk : k.length ≤ 64) (x : Sp) (hx : getS k ss = some x) :
    Calls Try.prog 28 #[.pointer (some ⟨d, 0, none⟩), .string (str k)] w fun e w' => ∃ sp n c, e = .returned (.tuple #[.slice sp n c, .int .i64 (sureE x)]) ∧ (sureL x).length = n ∧ BytesAt w' sp (sureL x) ∧ Below w.heap.size w w' := by
  obtain ⟨fs, sp, c, rs, h, rfl, rfl⟩ := h
  rw [sps_get, Option.map_eq_some_iff] at hx
  obtain ⟨⟨F, f⟩, hf, rfl⟩ := hx
  cases hla : f.sp.la with
  | true =>
    rw [show sureE f.sp = 0 by simp [sureE, hla], show sureL f.sp = f.sp.y by simp [sureL, hla]]
    refine (dsure_yes h.disk (str k) (str_small k hk) F f (by rw [str_list]; exact hf) hla).mono ?_
    rintro e w' ⟨sp', n, rfl, hn, _, hX, hb⟩
    exact ⟨sp', n, n, rfl, hn, hX.bytes, hb⟩
  | false =>
    rw [show sureE f.sp = 8 by simp [sureE, hla], show sureL f.sp = [] by simp [sureL, hla]]
    refine (dsure_not h.disk (str k) (str_small k hk) F f (by rw [str_list]; exact hf) hla).mono ?_
    rintro e w' ⟨rfl, rfl⟩
    exact ⟨none, 0, 0, rfl, rfl, ⟨by simp, by simp⟩, Below.refl _ _⟩
theorem msure_calls (h : Two base B w d M R room N ss tt) (k : Nm) (x : Sp) (hx : getS k tt = some x) :
    Calls Try.prog 42 #[.pointer (some ⟨R, 0, none⟩), .string (str k)] w fun e w' => ∃ sp n c, e = .returned (.tuple #[.slice sp n c, .int .i64 (sureE x)]) ∧ (sureL x).length = n ∧ BytesAt w' sp (sureL x) ∧ Below w.heap.size w w' := by
  obtain ⟨fs, sp, c, rs, h, rfl, rfl⟩ := h
  cases hla : x.la with
  | true =>
    rw [show sureE x = 0 by simp [sureE, hla], show sureL x = x.y by simp [sureL, hla]]
    refine (rsure_yes h.ref (str k) x (by rw [str_list]; exact hx) hla).mono ?_
    rintro e w' ⟨sp', n, c', rfl, hn, hX, hb⟩
    exact ⟨sp', n, c', rfl, hn, hX.bytes, hb⟩
  | false =>
    rw [show sureE x = 8 by simp [sureE, hla], show sureL x = [] by simp [sureL, hla]]
    refine (rsure_no h.ref (str k) (fun y hy => by rw [str_list, hx] at hy; cases hy; exact hla)).mono ?_
    rintro e w' ⟨rfl, rfl⟩
    exact ⟨none, 0, 0, rfl, rfl, ⟨by simp, by simp⟩, Below.refl _ _⟩
theorem lused_calls (h : Two base B w d M R room N ss tt) : Calls Try.prog 34 #[.pointer (some ⟨d, 0, none⟩)] w fun e w' => e = .returned (.int .i64 (usedS ss : Int)) ∧ Below w.heap.size w w' := by
  obtain ⟨fs, sp, c, rs, h, rfl, rfl⟩ := h
  exact dused_calls h.disk
theorem mused_calls (h : Two base B w d M R room N ss tt) : Calls Try.prog 41 #[.pointer (some ⟨R, 0, none⟩)] w fun e w' => e = .returned (.int .i64 (usedS tt : Int)) ∧ Below w.heap.size w w' := by
  obtain ⟨fs, sp, c, rs, h, rfl, rfl⟩ := h
  exact rused_calls h.ref
theorem lnames_calls (h : Two base B w d M R room N ss tt) : Calls Try.prog 27 #[.pointer (some ⟨d, 0, none⟩)] w fun e w' => ∃ sp n c, e = .returned (.slice sp n c) ∧ ss.length = n ∧ OwnN w.heap.size w' sp c (ss.map (·.1)) ∧ Below w.heap.size w w' := by
  obtain ⟨fs, sp, c, rs, h, rfl, rfl⟩ := h
  have e : (sps fs).map (·.1) = fs.map (·.1) := by simp [sps]
  rw [e, show (sps fs).length = fs.length by simp [sps]]
  exact dnames_calls h.disk
theorem mnames_calls (h : Two base B w d M R room N ss tt) : Calls Try.prog 40 #[.pointer (some ⟨R, 0, none⟩)] w fun e w' => ∃ sp n c, e = .returned (.slice sp n c) ∧ tt.length = n ∧ OwnN w.heap.size w' sp c (tt.map (·.1)) ∧ Below w.heap.size w w' := by
  obtain ⟨fs, sp, c, rs, h, rfl, rfl⟩ := h
  have e : (rss rs).map (·.1) = rs.map (·.1) := by simp [rss]
  rw [e, show (rss rs).length = rs.length by simp [rss]]
  exact rnames_calls h.ref
set_option maxRecDepth 20000 in
set_option maxHeartbeats 40000000 in
theorem same_calls (h : Two base B w d M R room N ss ss) : Calls Try.prog 16 #[.pointer (some ⟨d, 0, none⟩), .pointer (some ⟨R, 0, none⟩)] w fun e w' => e = .returned (.bool true) ∧ Below w.heap.size w w' := by
  have H := hide h
  have TT := hide (fun W (hb : Below w.heap.size w W) => h.later hb)
  have h16 := h.few16
  have NL := hide h.names_le
  have RS := hide h.riseS
  have MN := hide (mnames_calls h)
  clear h
  go_enter Try.func16, Try.ntmps16
  go_wp2_with (first
    | (go_at_call 40
       refine (unhide MN).mono ?_
       rintro e W1 ⟨lp, n, lc, rfl, hn, hL, b1⟩
       have B1 := hide b1
       have L1 := hide hL
       have HN := hide hn
       have LN := hide (lnames_calls (unhide TT W1 b1))
       clear b1 hL hn)
    | (go_at_call 27
       refine (unhide LN).mono ?_
       rintro e W2 ⟨np, n2, nc, rfl, hn, hL, b2⟩
       have hnn : n2 = n := hn.symm.trans (unhide HN)
       subst hnn
       have B2 := hide ((unhide B1).trans (b2.mono (unhide B1).size))
       have ST := hide (sameTexts_yes _ _ W2 (ss.map (·.1)) n2 (by rw [List.length_map]; exact hn) (by omega) np lp nc lc hL ((unhide L1).later b2))
       have L2 := hide ((unhide L1).later b2)
       clear b2 hL hn)
    | (go_at_call 29
       refine (unhide ST).mono ?_
       rintro e W3 ⟨rfl, b3⟩
       have B3 := hide ((unhide B2).trans (b3.mono (unhide B2).size))
       have L3 := hide ((unhide L2).later b3)
       have LU := hide (lused_calls (unhide TT W3 (unhide B3)))
       clear b3)
    | (go_at_call 34
       refine (unhide LU).mono ?_
       rintro e W4 ⟨rfl, b4⟩
       have B4 := hide ((unhide B3).trans (b4.mono (unhide B3).size))
       have L4 := hide ((unhide L3).later b4)
       have MU := hide (mused_calls (unhide TT W4 (unhide B4)))
       clear b4)
    | (go_at_call 41
       refine (unhide MU).mono ?_
       rintro e W5 ⟨rfl, b5⟩
       have B5 := hide ((unhide B4).trans (b5.mono (unhide B4).size))
       have L5 := hide ((unhide L4).later b5)
       clear b5))
  go_loopw [6] (fun i wr => ∃ j : Nat, j ≤ n2 ∧ i = .int .i64 (j : Int) ∧ Hid (Below W5.heap.size W5 wr)) (fun i _ => n2 - (intOf i).toNat)
  case atStart => exact ⟨0, by omega, rfl, hide (Below.refl _ _)⟩
  case round =>
    obtain ⟨j, hj, rfl, HW⟩ := hrel
    have BW := hide ((unhide B5).trans ((unhide HW).mono (unhide B5).size))
    by_cases hjn : j < n2
    · have y1 : (j : Int) < (n2 : Int) := by omega
      have y0 : (0 : Int) ≤ (j : Int) := by omega
      have hjs : j < ss.length := by rw [unhide HN]; exact hjn
      have LA := hide (fun W (hb : Below wr.heap.size wr W) => ((unhide L5).later (unhide HW)).later hb)
      obtain ⟨g, rfl, p0⟩ := (unhide LA wr (Below.refl _ _)).cell j (by rw [List.length_map]; exact hjs)
      have LC := hide (show ∀ W, Below wr.heap.size wr W → W.cell? ⟨g, j, none⟩ = some (.string (str ss[j].1)) from fun W hb => by
        obtain ⟨g', e', p⟩ := (unhide LA W hb).cell j (by rw [List.length_map]; exact hjs)
        obtain rfl : g = g' := by simpa using e'
        rw [List.getElem_map] at p
        exact p)
      rw [List.getElem_map] at p0
      have G := hide (show getS ss[j].1 ss = some ss[j].2 from getS_mem (unhide RS) (List.getElem_mem hjs))
      have K64 := hide (unhide NL _ (List.getElem_mem hjs))
      have TW := hide (fun W (hb : Below wr.heap.size wr W) => unhide TT W ((unhide BW).trans (hb.mono (unhide BW).size)))
      clear LA
      generalize ss[j] = z at *
      obtain ⟨k, x⟩ := z
      simp only at p0 LC G K64
      have C1 := hide (lread_calls (unhide TW wr (Below.refl _ _)) k (unhide K64) x (unhide G))
      go_wp2_with (first
        | (go_at_call 17
           refine (unhide C1).mono ?_
           rintro e V1 ⟨p1, n1, c1, rfl, hn1, hb1, b1⟩
           have D1 := hide b1
           have P1 := hide hb1
           have N1 := hide hn1
           have r1 := unhide LC V1 b1
           have C2 := hide (mread_calls (unhide TW V1 b1) k x (unhide G))
           clear b1 hb1 hn1)
        | (go_at_call 18
           refine (unhide C2).mono ?_
           rintro e V2 ⟨p2, m2, c2, rfl, hn2, hb2, b2⟩
           have D2 := hide ((unhide D1).trans (b2.mono (unhide D1).size))
           have P1b := hide ((unhide P1).later b2)
           have P2 := hide hb2
           have N2 := hide hn2
           have r2 := unhide LC V2 (unhide D2)
           have C3 := hide (lsure_calls (unhide TW V2 (unhide D2)) k (unhide K64) x (unhide G))
           clear b2 hb2 hn2)
        | (go_at_call 28
           refine (unhide C3).mono ?_
           rintro e V3 ⟨p3, m3, c3, rfl, hn3, hb3, b3⟩
           have D3 := hide ((unhide D2).trans (b3.mono (unhide D2).size))
           have P1c := hide ((unhide P1b).later b3)
           have P2c := hide ((unhide P2).later b3)
           have P3 := hide hb3
           have N3 := hide hn3
           have r3 := unhide LC V3 (unhide D3)
           have C4 := hide (msure_calls (unhide TW V3 (unhide D3)) k x (unhide G))
           clear b3 hb3 hn3)
        | (go_at_call 42
           refine (unhide C4).mono ?_
           rintro e V4 ⟨p4, m4, c4, rfl, hn4, hb4, b4⟩
           have D4 := hide ((unhide D3).trans (b4.mono (unhide D3).size))
           have s1 := run_string8 n1 c1 (unhide N1) ((unhide P1c).later b4)
           have s2 := run_string8 m2 c2 (unhide N2) ((unhide P2c).later b4)
           have s3 := run_string8 m3 c3 (unhide N3) ((unhide P3).later b4)
           have s4 := run_string8 m4 c4 hn4 hb4
           clear b4 hb4 hn4))
      exact ⟨⟨j + 1, by omega, by go_num, hide ((unhide HW).trans ((unhide D4).mono (unhide HW).size))⟩, by simp [intOf]; omega⟩
    · have y1 : ¬ (j : Int) < (n2 : Int) := by omega
      go_wp2
      go_ret
      exact ⟨rfl, unhide BW⟩
end
end Go.Proofs.Ytghdiemihceaoaa
end
