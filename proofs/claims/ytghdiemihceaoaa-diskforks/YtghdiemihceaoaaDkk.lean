/- Disk: what must be whatever is asked (live). -/
import Derived.Test.YtghdiemihceaoaaDkj
import Derived.Lib.SlBytesConst
namespace Go.Proofs.Ytghdiemihceaoaa
open Go.ChangeShapes Go.WideShapes Go.ChangeAt Go.RowKit Go.Maps

theorem DGrew.below {base d M room N : Nat} {w w' : World} {fs fs' : List Fe} (h : DiskAt base w d M room N fs) (hbs : base ≤ w.heap.size) (hg : DGrew d M w fs w' fs') : Below base w w' :=
  ⟨hg.os, hg.tape, hg.output, hg.size, fun i hi => hg.block i (by omega) (fun hm => by have := (h.mut_lt hm).1; omega)⟩
theorem lit_bytes (W : World) (l : List Nat) (fr : Nat × Nat) (hl : ∀ c ∈ l, c < 256) : BytesAt (W.alloc (.cells (l.map byteV).toArray 5 fr)) (some ⟨W.heap.size, 0, none⟩) l := by
  refine ⟨hl, fun i hi => ⟨W.heap.size, 0, rfl, ?_⟩⟩
  rw [cell_of_row _ _ _ _ _ _ (heap_new W _), Nat.zero_add]
  simp [hi]
  rfl
theorem lit_ints (W : World) (l : List Int) (hl : ∀ n ∈ l, -9223372036854775808 ≤ n ∧ n ≤ 9223372036854775807) : IntsAt (W.alloc (.cells (l.map (Value.int .i64)).toArray 3)) (some ⟨W.heap.size, 0, none⟩) l := by
  refine ⟨hl, fun i hi => ⟨W.heap.size, 0, rfl, ?_⟩⟩
  rw [cell_of_row _ _ _ _ _ _ (heap_new W _), Nat.zero_add]
  simp [hi]
theorem new_ne {base d M room N : Nat} {W : World} {fs : List Fe} (h : DiskAt base W d M room N fs) (n : Nat) : ∀ b off, some (⟨W.heap.size, 0, none⟩ : Addr) = some ⟨b, off, none⟩ → 0 < n → ¬ DMut d M fs b := by
  intro b off e _ hm
  have h1 := (h.mut_lt hm).2
  simp only [Option.some.injEq, Addr.mk.injEq] at e
  omega
theorem sm {s : ByteArray} (h : s.size ≤ 1000) : s.size ≤ maxLen := by simp only [maxLen]; omega
def L1 : Ds := [([97], ⟨false, [], [(false, 0, [120, 121, 122])]⟩)]
def L2 : Ds := [([97], ⟨true, [120, 121, 122], []⟩)]
def L3 : Ds := [([97], ⟨true, [120, 121, 122], [(false, 1, [112, 113])]⟩)]
def L4 : Ds := [([97], ⟨true, [120, 121, 122], [(false, 1, [112, 113])]⟩), ([98], ⟨false, [], [(false, 0, [120])]⟩)]
def L5 : Ds := [([97], ⟨true, [120, 112, 122], []⟩)]
theorem step1 : dWrite 100 [97] 0 [120, 121, 122] [] = (0, L1) := by rfl
theorem step2 : dSync [97] L1 = (0, L2) := by rfl
theorem step3 : dWrite 100 [97] 1 [112, 113] L2 = (0, L3) := by rfl
theorem step4 : dWrite 100 [98] 0 [120] L3 = (0, L4) := by rfl
theorem step5 : crashS [1] 0 L4 = L5 := by rfl
set_option maxRecDepth 20000 in
set_option maxHeartbeats 4000000 in
theorem live5_calls (w : World) : Calls Try.prog 19 #[] w fun e w' => e = .returned (.bool true) ∧ Below w.heap.size w w' := by
  have kc := fun (w : World) (C : Array Value) (n c : Nat) => Lib.run_convert_bytes_const (P := Try.prog) w 28 5 C n c Try.underlying28 Try.underlying5
  go_enter Try.func19, Try.ntmps19
  go_wp2_with fail
  refine (dnew_calls (base := w.heap.size) w (Nat.le_refl _) 100).mono ?_
  rintro e W1 ⟨rfl, h1, b1⟩
  obtain ⟨d, hd⟩ : ∃ d, w.heap.size + 1 = d := ⟨_, rfl⟩
  obtain ⟨M, hM⟩ : ∃ M, w.heap.size = M := ⟨_, rfl⟩
  rw [hd] at h1 ⊢
  have h1' : DiskAt w.heap.size W1 d M 100 0 [] := by rw [← hM]; exact h1
  have H1 := hide h1'
  have B1 := hide b1
  clear h1 b1 h1' hd hM
  go_wp2_with fail
  have A1 := hide (show Below W1.heap.size W1 (W1.alloc (.cells #[.int .u8 120, .int .u8 121, .int .u8 122] 5 (3, 4))) from (Below.refl _ _).alloc (Nat.le_refl _) _)
  refine (dwrite_calls ((unhide H1).later (unhide A1)) (Nat.le_trans (unhide B1).size (unhide A1).size) (by omega) (⟨#[97]⟩ : ByteArray) (sm (by decide)) 0 (by omega) _ 3 3 [120, 121, 122] rfl (Nat.le_refl _) (lit_bytes W1 [120, 121, 122] (3, 4) (by decide)) (by simp) (new_ne (unhide H1) 3) (by omega)).mono ?_
  rintro e W2 ⟨he, fs2, h2, g2, s2⟩
  rw [show dWrite 100 (⟨#[97]⟩ : ByteArray).data.toList 0 [120, 121, 122] (sps []) = (0, L1) from step1] at he s2
  subst he
  have H2 := hide h2
  have S2 := hide s2
  have B2 := hide ((unhide B1).trans (((unhide A1).mono (unhide B1).size).trans (DGrew.below ((unhide H1).later (unhide A1)) (Nat.le_trans (unhide B1).size (unhide A1).size) g2)))
  clear h2 g2 s2 A1 H1
  go_wp2_with fail
  refine (dsync_calls (unhide H2) (unhide B2).size (⟨#[97]⟩ : ByteArray) (sm (by decide))).mono ?_
  rintro e W3 ⟨he, fs3, h3, g3, s3⟩
  rw [unhide S2, show dSync (⟨#[97]⟩ : ByteArray).data.toList (0, L1).2 = (0, L2) from step2] at he s3
  subst he
  have H3 := hide h3
  have S3 := hide s3
  have B3 := hide ((unhide B2).trans (DGrew.below (unhide H2) (unhide B2).size g3))
  clear h3 g3 s3 H2 S2
  go_wp2_with fail
  have A3 := hide (show Below W3.heap.size W3 (W3.alloc (.cells #[.int .u8 112, .int .u8 113] 5 (2, 3))) from (Below.refl _ _).alloc (Nat.le_refl _) _)
  refine (dwrite_calls ((unhide H3).later (unhide A3)) (Nat.le_trans (unhide B3).size (unhide A3).size) (by omega) (⟨#[97]⟩ : ByteArray) (sm (by decide)) 1 (by omega) _ 2 2 [112, 113] rfl (Nat.le_refl _) (lit_bytes W3 [112, 113] (2, 3) (by decide)) (by simp) (new_ne (unhide H3) 2) (by omega)).mono ?_
  rintro e W4 ⟨he, fs4, h4, g4, s4⟩
  rw [unhide S3, show dWrite 100 (⟨#[97]⟩ : ByteArray).data.toList 1 [112, 113] (0, L2).2 = (0, L3) from step3] at he s4
  subst he
  have H4 := hide h4
  have S4 := hide s4
  have B4 := hide ((unhide B3).trans (((unhide A3).mono (unhide B3).size).trans (DGrew.below ((unhide H3).later (unhide A3)) (Nat.le_trans (unhide B3).size (unhide A3).size) g4)))
  clear h4 g4 s4 A3 H3 S3
  go_wp2_with fail
  have A4 := hide (show Below W4.heap.size W4 (W4.alloc (.cells #[.int .u8 120] 5 (1, 2))) from (Below.refl _ _).alloc (Nat.le_refl _) _)
  refine (dwrite_calls ((unhide H4).later (unhide A4)) (Nat.le_trans (unhide B4).size (unhide A4).size) (by omega) (⟨#[98]⟩ : ByteArray) (sm (by decide)) 0 (by omega) _ 1 1 [120] rfl (Nat.le_refl _) (lit_bytes W4 [120] (1, 2) (by decide)) (by simp) (new_ne (unhide H4) 1) (by omega)).mono ?_
  rintro e W5 ⟨he, fs5, h5, g5, s5⟩
  rw [unhide S4, show dWrite 100 (⟨#[98]⟩ : ByteArray).data.toList 0 [120] (0, L3).2 = (0, L4) from step4] at he s5
  subst he
  have H5 := hide h5
  have S5 := hide s5
  have B5 := hide ((unhide B4).trans (((unhide A4).mono (unhide B4).size).trans (DGrew.below ((unhide H4).later (unhide A4)) (Nat.le_trans (unhide B4).size (unhide A4).size) g5)))
  clear h5 g5 s5 A4 H4 S4
  go_wp2_with fail
  have A5 := hide (show Below W5.heap.size W5 (W5.alloc (.cells #[.int .i64 1] 3)) from (Below.refl _ _).alloc (Nat.le_refl _) _)
  refine (dcrash_calls ((unhide H5).later (unhide A5)) (Nat.le_trans (unhide B5).size (unhide A5).size) (by omega) _ 1 1 [1] rfl (lit_ints W5 [1] (by decide)) (new_ne (unhide H5) _)).mono ?_
  rintro e W6 ⟨rfl, fs6, h6, g6, s6⟩
  rw [unhide S5, show crashS [1] 0 (0, L4).2 = L5 from step5] at s6
  have H6 := hide h6
  have S6 := hide s6
  have B6 := hide ((unhide B5).trans (((unhide A5).mono (unhide B5).size).trans (DGrew.below ((unhide H5).later (unhide A5)) (Nat.le_trans (unhide B5).size (unhide A5).size) g6)))
  clear h6 g6 s6 A5 H5 S5
  have G1 : getS (⟨#[97]⟩ : ByteArray).data.toList (sps fs6) = some ⟨true, [120, 112, 122], []⟩ := by rw [unhide S6]; rfl
  have G2 : getS (⟨#[98]⟩ : ByteArray).data.toList (sps fs6) = none := by rw [unhide S6]; rfl
  rw [sps_get, Option.map_eq_none_iff] at G2
  rw [sps_get, Option.map_eq_some_iff] at G1
  obtain ⟨⟨F, f⟩, G1, E1⟩ := G1
  have N1 := hide (show f.sp.now = [120, 112, 122] by rw [show f.sp = _ from E1]; rfl)
  have R1 := hide (dread_yes (unhide H6) (⟨#[97]⟩ : ByteArray) (sm (by decide)) F f G1)
  have R2 := hide (fun W (hb : Below W6.heap.size W6 W) => dread_no ((unhide H6).later hb) (⟨#[98]⟩ : ByteArray) (sm (by decide)) G2)
  clear G1 G2 E1 H6 S6
  go_wp2_with fail
  refine (unhide R1).mono ?_
  rintro e W7 ⟨sp, n, rfl, hn, h8, hX, b7⟩
  rw [unhide N1] at hn hX
  obtain rfl : 3 = n := hn
  have B7 := hide b7
  have X7 := hide hX.bytes
  clear hX b7
  go_wp2_with fail
  refine (unhide R2 W7 (unhide B7)).mono ?_
  rintro e W8 ⟨rfl, rfl⟩
  have hst := run_string8 3 3 rfl (unhide X7)
  rw [show strOf [120, 112, 122] = (⟨#[120, 112, 122]⟩ : ByteArray) from rfl] at hst
  have B9 := hide ((unhide B6).trans ((unhide B7).mono (unhide B6).size))
  go_wp2
  go_ret
  exact ⟨rfl, unhide B9⟩
end Go.Proofs.Ytghdiemihceaoaa
