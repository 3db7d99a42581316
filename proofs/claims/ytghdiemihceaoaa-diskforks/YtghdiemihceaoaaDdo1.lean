/- A deed of kind 1 on both disks. -/
import Derived.Test.YtghdiemihceaoaaDdo
namespace Go.Proofs.Ytghdiemihceaoaa
open Go.ChangeShapes Go.WideShapes Go.ChangeAt Go.RowKit Go.Maps
section
variable {base d M R room N : Nat} {B : List Nat} {w w' : World} {ss tt : Ds}
set_option maxRecDepth 20000 in
set_option maxHeartbeats 40000000 in
theorem do_1 (h : Two base B w d M R room N ss ss) (hN : N + 1 ≤ 300) (nm to : ByteArray) (z : Int) (bs : List Nat) (ks : List Int) (hh : DeH) (hx : DeLow base w ⟨1, nm, to, z, bs, ks⟩ hh) (hsh : bs.length ≤ 4000) :
    Calls Try.prog 15 #[.pointer (some ⟨d, 0, none⟩), .pointer (some ⟨R, 0, none⟩), deVal ⟨1, nm, to, z, bs, ks⟩ hh] w (DoEnd base B d M R room (N + 1) w (dDo room ⟨1, nm, to, z, bs, ks⟩ ss)) := by
  have A1 := hide (show Below w.heap.size w (w.alloc (.cells #[.int .i64 1, .string nm, .string to, .int .i64 z, .slice hh.bp bs.length hh.bc, .slice hh.kp ks.length hh.kc] 31)) from (Below.refl _ _).alloc (Nat.le_refl _) _)
  have T1 := hide (h.push (.cells #[.int .i64 1, .string nm, .string to, .int .i64 z, .slice hh.bp bs.length hh.bc, .slice hh.kp ks.length hh.kc] 31))
  have K1 := hide (h.keeps (unhide A1))
  have X1 := hide (heap_new w (.cells #[.int .i64 1, .string nm, .string to, .int .i64 z, .slice hh.bp bs.length hh.bc, .slice hh.kp ks.length hh.kc] 31))
  have x0 := fcell (unhide X1) 0 _ rfl
  have x1 := fcell (unhide X1) 1 _ rfl
  have x2 := fcell (unhide X1) 2 _ rfl
  have x3 := fcell (unhide X1) 3 _ rfl
  have x4 := fcell (unhide X1) 4 _ rfl
  have x5 := fcell (unhide X1) 5 _ rfl
  have BX := hide (show ∀ W, Keeps base (w.heap.size :: B) (w.alloc (.cells #[.int .i64 1, .string nm, .string to, .int .i64 z, .slice hh.bp bs.length hh.bc, .slice hh.kp ks.length hh.kc] 31)) W → W.heap[w.heap.size]? = some (.cells #[.int .i64 1, .string nm, .string to, .int .i64 z, .slice hh.bp bs.length hh.bc, .slice hh.kp ks.length hh.kc] 31) from fun W hk => (hk.block _ (.inr List.mem_cons_self)).trans (unhide X1))
  have HX := hide hx
  have H := hide h
  have sn : nm.size ≤ maxLen := (hx.at_ w (Below.refl _ _)).sn
  have st : to.size ≤ maxLen := (hx.at_ w (Below.refl _ _)).st
  have hz : z ≤ 9223372036854775807 := (hx.at_ w (Below.refl _ _)).wa.2
  have SN := hide sn
  have ST := hide st
  have HZ := hide hz
  have SH := hide hsh
  have HN := hide hN
  have EN := hide (show ∀ W (s2 : Ds), s2 = dDo room ⟨1, nm, to, z, bs, ks⟩ ss → ∀ N', N' ≤ N + 1 → Two base (w.heap.size :: B) W d M R room N' s2 s2 → Keeps base (w.heap.size :: B) (w.alloc (.cells #[.int .i64 1, .string nm, .string to, .int .i64 z, .slice hh.bp bs.length hh.bc, .slice hh.kp ks.length hh.kc] 31)) W → DoEnd base B d M R room (N + 1) w (dDo room ⟨1, nm, to, z, bs, ks⟩ ss) (.returned (.bool true)) W from fun W s2 e N' hN' hT hk => by
    subst e
    exact ⟨rfl, (hT.mono hN' hN).sub (fun g hg => List.mem_cons_of_mem _ hg), (h.keeps (unhide A1)).trans (hk.sub (fun g hg => List.mem_cons_of_mem _ hg))⟩)
  have TD := hide (show Two base (w.heap.size :: B) (w.alloc (.cells #[.int .i64 1, .string nm, .string to, .int .i64 z, .slice hh.bp bs.length hh.bc, .slice hh.kp ks.length hh.kc] 31)).drew d M R room N ss ss from (unhide T1).later ((Below.refl _ _).drew))
  have DK := hide (show ∀ W, Keeps base (w.heap.size :: B) (w.alloc (.cells #[.int .i64 1, .string nm, .string to, .int .i64 z, .slice hh.bp bs.length hh.bc, .slice hh.kp ks.length hh.kc] 31)).drew W → Keeps base (w.heap.size :: B) (w.alloc (.cells #[.int .i64 1, .string nm, .string to, .int .i64 z, .slice hh.bp bs.length hh.bc, .slice hh.kp ks.length hh.kc] 31)) W from fun W hk => ⟨hk.os, hk.tape, hk.output, hk.size, hk.block⟩)
  clear h hx hsh hN sn st hz
  unfold deVal
  have LC := hide (lcut_calls (unhide TD) (unhide HN) nm (unhide SN) z)
  have SE := hide (show (dCut nm.data.toList z ss).2 = dDo room ⟨1, nm, to, z, bs, ks⟩ ss from rfl)
  have MCC := hide (fun W N' (hT : Two base (w.heap.size :: B) W d M R room N' (dCut nm.data.toList z ss).2 ss) => mcut_calls nm z hT)
  generalize (dCut nm.data.toList z ss) = r at *
  obtain ⟨q, s2⟩ := r
  simp only at SE
  have NN := hide (show N + 1 ≤ N + 1 by omega)
  clear T1 K1
  go_enter Try.func15, Try.ntmps15
  go_wp2_with fail
  generalize w.alloc (.cells #[.int .i64 1, .string nm, .string to, .int .i64 z, .slice hh.bp bs.length hh.bc, .slice hh.kp ks.length hh.kc] 31) = V1 at *
  go_region_law (first
    | (go_simp
       go_at_call 24
       refine (unhide LC).mono ?_
       rintro e W ⟨rfl, hT, hk0⟩
       have KW := hide (unhide DK W hk0)
       have Y1 := unhide BX W (unhide KW)
       have v0 := fcell Y1 0 _ rfl
       have v1 := fcell Y1 1 _ rfl
       have v2 := fcell Y1 2 _ rfl
       have v3 := fcell Y1 3 _ rfl
       have v4 := fcell Y1 4 _ rfl
       have v5 := fcell Y1 5 _ rfl
       have MC := hide (unhide MCC W _ hT)
       clear hT hk0 Y1)
    | (go_simp
       go_at_call 36
       refine (unhide MC).mono ?_
       rintro e W2 ⟨rfl, hT2, hk2⟩
       have E3 := hide (unhide EN W2 _ (unhide SE) _ (unhide NN) hT2 ((unhide KW).trans hk2))
       have Y2 := unhide BX W2 ((unhide KW).trans hk2)
       have t0 := fcell Y2 0 _ rfl
       have t1 := fcell Y2 1 _ rfl
       have t2 := fcell Y2 2 _ rfl
       have t3 := fcell Y2 3 _ rfl
       have t4 := fcell Y2 4 _ rfl
       have t5 := fcell Y2 5 _ rfl
       clear hT2 hk2 Y2))
  all_goals
    go_wp2
    go_ret
    exact unhide E3
end
end Go.Proofs.Ytghdiemihceaoaa
