/- A deed on both disks, whatever its kind. -/
import Derived.Test.YtghdiemihceaoaaB11
import Derived.Test.YtghdiemihceaoaaB01
import Derived.Deep.RegionHeld3
import Derived.Test.YtghdiemihceaoaaB05
section
namespace Go.Proofs.Ytghdiemihceaoaa
open Go.ChangeShapes Go.WideShapes Go.ChangeAt Go.RowKit Go.Maps
section
variable {base d M R room N : Nat} {B : List Nat} {w w' : World} {ss tt : Ds}
theorem do_calls (h : Two base B w d M R room N ss ss) (hN : N + 1 ≤ 300) (e : De) (hh : DeH) (hx : DeLow base w e hh) (hs : e.short = true) :
    Calls Try.prog 15 #[.pointer (some ⟨d, 0, none⟩), .pointer (some ⟨R, 0, none⟩), deVal e hh] w (DoEnd base B d M R room (N + 1) w (dDo room e ss)) := by
  have hb : e.bs.length ≤ 4000 := by
    unfold De.short at hs
    simp at hs
    exact hs.1
  obtain ⟨kd, nm, to, z, bs, ks⟩ := e
  by_cases h0 : kd = 0
  · subst h0; exact do_0 h hN nm to z bs ks hh hx hb
  by_cases h1 : kd = 1
  · subst h1; exact do_1 h hN nm to z bs ks hh hx hb
  by_cases h2 : kd = 2
  · subst h2; exact do_2 h hN nm to z bs ks hh hx hb
  by_cases h3 : kd = 3
  · subst h3; exact do_3 h hN nm to z bs ks hh hx hb
  by_cases h4 : kd = 4
  · subst h4; exact do_4 h hN nm to z bs ks hh hx hb
  by_cases h5 : kd = 5
  · subst h5; exact do_5 h hN nm to z bs ks hh hx hb
  exact do_6 h hN kd (fun i hi hj => by omega) nm to z bs ks hh hx hb
theorem lnew_calls (w : World) (z : Int) : Calls Try.prog 12 #[.int .i64 z] w fun e w' => ∃ d M, e = .returned (.pointer (some ⟨d, 0, none⟩)) ∧ DiskAt w.heap.size w' d M z.toNat 0 [] ∧ Below w.heap.size w w' := by
  refine (dnew_calls (base := w.heap.size) w (Nat.le_refl _) z).mono ?_
  rintro e W ⟨rfl, h, b⟩
  exact ⟨_, _, rfl, h, b⟩
theorem mnew_calls (w : World) (hb : base ≤ w.heap.size) (z : Int) (d M : Nat) (h : DiskAt base w d M room 0 []) (hz : z.toNat = room) : Calls Try.prog 13 #[.int .i64 z] w fun e w' => ∃ R, e = .returned (.pointer (some ⟨R, 0, none⟩)) ∧ Two base [] w' d M R room 0 [] [] ∧ Below w.heap.size w w' := by
  subst hz
  refine (rnew_calls (base := 0) w (Nat.zero_le _) z).mono ?_
  rintro e W ⟨rfl, h2, b⟩
  refine ⟨_, rfl, ⟨[], none, 0, [], ⟨Nat.le_trans hb b.size, by omega, h.later b, h2, hb, by simp, ?_, ?_, by simp⟩, rfl, rfl⟩, b⟩
  · rintro g (rfl | hg) hm
    · have := (h.mut_lt hm).2; omega
    · rcases hg with hg | ⟨x, hx, _⟩
      · cases hg
      · simp at hx
  · rintro ⟨x, hx, _⟩
    simp at hx
end
end Go.Proofs.Ytghdiemihceaoaa
end
/- The law's play: deeds (up to 200) on both. -/
section
namespace Go.Proofs.Ytghdiemihceaoaa
open Go.ChangeShapes Go.WideShapes Go.ChangeAt Go.RowKit Go.Maps
def PlayEnd (w : World) (room : Nat) (e : Ending) (w' : World) : Prop := ∃ d M R N ss, e = .returned (.tuple #[.pointer (some ⟨d, 0, none⟩), .pointer (some ⟨R, 0, none⟩), .bool true]) ∧ N ≤ 200 ∧ Two w.heap.size [] w' d M R room N ss ss ∧ Below w.heap.size w w'
set_option maxRecDepth 20000 in
set_option maxHeartbeats 40000000 in
theorem play_calls (z : Int) (a : Option Addr) (n c : Nat) (es : List De) (w : World) (hn : es.length = n) (hx : n ≤ maxLen) (hD : DesAt w a es) :
    Calls Try.prog 20 #[.int .i64 z, .slice a n c] w (PlayEnd w z.toNat) := by
  have HD := hide hD
  simp only [maxLen] at hx
  have HN := hide hn
  clear hD hn
  have LN := hide (lnew_calls w z)
  obtain ⟨room, hroom⟩ : ∃ room, z.toNat = room := ⟨_, rfl⟩
  have RO := hide hroom
  rw [hroom] at LN ⊢
  clear hroom
  go_enter Try.func20, Try.ntmps20
  go_wp2_with (first
    | (go_at_call 12
       refine (unhide LN).mono ?_
       rintro e W1 ⟨d, M, rfl, h1, b1⟩
       have B1 := hide b1
       have MN := hide (mnew_calls W1 b1.size z d M h1 (unhide RO))
       clear b1 h1)
    | (go_at_call 13
       refine (unhide MN).mono ?_
       rintro e W2 ⟨R, rfl, h2, b2⟩
       have B2 := hide ((unhide B1).trans (b2.mono (unhide B1).size))
       have T2 := hide h2
       clear b2 h2))
  go_loopw [9] (fun i wr => ∃ (j N : Nat) (ss : Ds), j ≤ n ∧ j ≤ 200 ∧ i = .int .i64 (j : Int) ∧ Hid (N ≤ j) ∧ Hid (Two w.heap.size [] wr d M R room N ss ss) ∧ Hid (Below w.heap.size w wr)) (fun i _ => n - (intOf i).toNat)
  case atStart => exact ⟨0, 0, [], by omega, by omega, rfl, hide (Nat.le_refl _), T2, B2⟩
  case round =>
    obtain ⟨j, N, ss, hj, hj200, rfl, HNj, T, F⟩ := hrel
    clear T2 B2 B1 MN LN
    by_cases hjm : j < n ∧ j < 200
    · have y0 : (0 : Int) ≤ (j : Int) := by omega
      have y1 : (j : Int) < (n : Int) := by omega
      have y2 : (j : Int) < 200 := by omega
      have hjl : j < es.length := by rw [unhide HN]; exact hjm.1
      obtain ⟨b, off, hh, rfl, cc, ha⟩ := (unhide HD).cell j hjl
      have LW := hide (fun W (hb : Below w.heap.size w W) => (DeLow.of ha).below hb)
      have CW := hide (show ∀ W, Below w.heap.size w W → deCells es[j] hh W b (off + j * 6) from fun W hb => by
        obtain ⟨h1, h2, h3, h4, h5, h6⟩ := cc
        exact ⟨cell_later hb h1, cell_later hb h2, cell_later hb h3, cell_later hb h4, cell_later hb h5, cell_later hb h6⟩)
      clear cc ha
      generalize es[j] = e at *
      have hN1 : N + 1 ≤ 300 := by have := unhide HNj; omega
      obtain ⟨q0, q1, q2, q3, q4, q5⟩ := unhide CW wr (unhide F)
      have SC := hide (short_calls e hh wr)
      unfold deVal at SC
      have DC := hide (fun W (hb : Below w.heap.size w W) (hT : Two w.heap.size [] W d M R room N ss ss) (hs : e.short = true) => do_calls hT hN1 e hh (unhide LW W hb) hs)
      unfold deVal at DC
      cases hsh : e.short with
      | false =>
        rw [hsh] at SC
        go_wp2_with (go_at_call 14; refine (unhide SC).mono ?_; rintro r W1 ⟨rfl, b1⟩; have T1 := hide ((unhide T).later b1); have F1 := hide ((unhide F).trans (b1.mono (unhide F).size)); clear b1)
        exact ⟨⟨j + 1, N, ss, by omega, by omega, by go_num, hide (Nat.le_succ_of_le (unhide HNj)), T1, F1⟩, by simp [intOf]; omega⟩
      | true =>
        rw [hsh] at SC
        go_wp2_with (first
          | (go_at_call 14
             refine (unhide SC).mono ?_
             rintro r W1 ⟨rfl, b1⟩
             have T1 := hide ((unhide T).later b1)
             have F1 := hide ((unhide F).trans (b1.mono (unhide F).size))
             obtain ⟨p0, p1, p2, p3, p4, p5⟩ := unhide CW W1 (unhide F1)
             have D1 := hide (unhide DC W1 (unhide F1) (unhide T1) hsh)
             clear b1)
          | (go_at_call 15
             refine (unhide D1).mono ?_
             rintro r W2 ⟨rfl, h2, k2⟩
             have T2 := hide h2
             have F2 := hide ((unhide F1).trans k2.below)
             clear h2 k2))
        exact ⟨⟨j + 1, N + 1, dDo room e ss, by omega, by omega, by go_num, hide (Nat.succ_le_succ (unhide HNj)), T2, F2⟩, by simp [intOf]; omega⟩
    · have hN2 : N ≤ 200 := by have := unhide HNj; omega
      by_cases hjn : j < n
      · have y1 : (j : Int) < (n : Int) := by omega
        have y2 : ¬ (j : Int) < 200 := by omega
        go_wp2
        go_ret3
        exact ⟨d, M, R, N, ss, rfl, hN2, unhide T, unhide F⟩
      · have y1 : ¬ (j : Int) < (n : Int) := by omega
        go_wp2
        go_ret3
        exact ⟨d, M, R, N, ss, rfl, hN2, unhide T, unhide F⟩
end Go.Proofs.Ytghdiemihceaoaa
end
/- Regions that draw their order, walked operation by operation, with operations that are not wanted. -/
section
namespace Go.Proofs.Ytghdiemihceaoaa
open Go.RowKit

section
variable {P : Program} {md : Region.Mode} {ops : Array Oper} {Q : Exit → Act → World → Prop} {S : World → Prop}
/-- An operation that is wanted and yields its value in every world that meets S. -/
theorem held_take (i : Nat) {oi : Oper} {v : Value} {fuel : Nat} {listed : Array Bool} {a : Act} {w : World} (hr : (Region.ready md ops listed).contains i = true) (hi : ops[i]? = some oi)
    (hw : Region.wanted oi (yielded ops a.tmps) = true) (hs : Region.noSelect ops = true) (hf : Region.free md ops listed i = true)
    (hQ : ∀ c a w, Q (.panic c) (a.put oi.dst v) w → Q (.panic c) a w) (hy : ∀ w, S w → (execOp a.eval oi).run P w = .ok (.value v) w) (hS : S w)
    (h : wpAnyH P md ops Q S fuel (listed.setIfInBounds i true) (a.put oi.dst v) w) : wpAnyH P md ops Q S (fuel + 1) listed a w :=
  wpAnyH_take hi hs hf hr hQ (Or.inl ⟨hw, hy⟩) hS h
/-- An operation that is not wanted. -/
theorem held_skip (i : Nat) {oi : Oper} {fuel : Nat} {listed : Array Bool} {a : Act} {w : World} (hr : (Region.ready md ops listed).contains i = true) (hi : ops[i]? = some oi)
    (hw : Region.wanted oi (yielded ops a.tmps) = false) (hs : Region.noSelect ops = true) (hf : Region.free md ops listed i = true)
    (hQ : ∀ c a w, Q (.panic c) (a.put oi.dst undef) w → Q (.panic c) a w) (hS : S w)
    (h : wpAnyH P md ops Q S fuel (listed.setIfInBounds i true) (a.put oi.dst undef) w) : wpAnyH P md ops Q S (fuel + 1) listed a w :=
  wpAnyH_take hi hs hf hr hQ (Or.inr ⟨hw, rfl⟩) hS h
/-- The one operation that may come up. -/
theorem held_one (i : Nat) {oi : Oper} {fuel : Nat} {listed : Array Bool} {a : Act} {w : World} (hr : Region.ready md ops listed = [i]) (hi : ops[i]? = some oi)
    (h : ∀ K' : Act → World → Prop, Shut (∀ a w, S w → (S w → wpAnyH P md ops Q S fuel (listed.setIfInBounds i true) a w) → K' a w) → if Region.wanted oi (yielded ops a.tmps) = true then Oper.wp P oi a w K' Q else K' (a.put oi.dst undef) w) :
    wpAnyH P md ops Q S (fuel + 1) listed a w :=
  wpAnyH_ready hr (by simp) (AllReadyH.cons hi h AllReadyH.nil)
/-- The one operation that may come up, and is not wanted. -/
theorem held_none (i : Nat) {oi : Oper} {fuel : Nat} {listed : Array Bool} {a : Act} {w : World} (hr : Region.ready md ops listed = [i]) (hi : ops[i]? = some oi)
    (hw : Region.wanted oi (yielded ops a.tmps) = false) (hS : S w)
    (h : wpAnyH P md ops Q S fuel (listed.setIfInBounds i true) (a.put oi.dst undef) w) : wpAnyH P md ops Q S (fuel + 1) listed a w :=
  held_one i hr hi (fun K' hK => by rw [hw]; exact hK.out _ _ hS (fun _ => h))
end
end Go.Proofs.Ytghdiemihceaoaa
end
/- Disk: Fork. -/
section
namespace Go.Proofs.Ytghdiemihceaoaa
open Go.ChangeShapes Go.WideShapes Go.ChangeAt Go.RowKit Go.Maps

def Fil.twin (f : Fil) (bp yp cp : Option Addr) (cc : Nat) : Fil := ⟨bp, f.b.length, f.b, yp, f.y.length, f.y, f.la, cp, cc, f.xs⟩
/-- A file's fork: the like, in new blocks; the bytes of the changes are shared. -/
theorem FileAt.forked {base : Nat} {w W1 W2 W3 : World} {F : Nat} {f : Fil} (h : FileAt base w F f) (b1 : Below w.heap.size w W1) (b2 : Below W1.heap.size W1 W2) (b3 : Below W2.heap.size W2 W3) (bp yp cp : Option Addr) (cc : Nat) (hB : Bx w.heap.size W1 bp f.b.length f.b) (hY : Bx W1.heap.size W2 yp f.y.length f.y) (hC : OwnC W2.heap.size W3 cp cc f.xs) :
    FileAt w.heap.size (W3.alloc (.cells #[.slice bp f.b.length f.b.length, .slice yp f.y.length f.y.length, .bool f.la, .slice cp f.xs.length cc] 75)) W3.heap.size (f.twin bp yp cp cc) ∧ Below w.heap.size w (W3.alloc (.cells #[.slice bp f.b.length f.b.length, .slice yp f.y.length f.y.length, .bool f.la, .slice cp f.xs.length cc] 75)) := by
  have bA : Below W3.heap.size W3 (W3.alloc (.cells #[.slice bp f.b.length f.b.length, .slice yp f.y.length f.y.length, .bool f.la, .slice cp f.xs.length cc] 75)) := (Below.refl _ _).alloc (Nat.le_refl _) _
  have s1 := b1.size
  have s2 := b2.size
  have s3 := b3.size
  refine ⟨⟨heap_new W3 _, ((hB.later b2).later b3).later bA, ((hY.mono s1).later b3).later bA, (hC.mono (by omega)).later bA, by omega, ?_, ?_⟩, (b1.trans (b2.mono s1)).trans ((b3.mono (by omega)).trans (bA.mono (by omega)))⟩
  · intro g hg hs
    have := (hB.isT g hg).2.1
    have := (hY.isT g hs).1
    omega
  · intro x hx g hg
    have h0 := ((h.chs.dat x hx).isT g hg).2.1
    exact ⟨fun e => by have := (hB.isT g e).1; omega, fun e => by have := (hY.isT g e).1; omega⟩
set_option maxRecDepth 20000 in
set_option maxHeartbeats 4000000 in
theorem ffork_calls {base : Nat} {w : World} {F : Nat} {f : Fil} (h : FileAt base w F f) (hb8 : f.b.length ≤ 262144) (hy8 : f.y.length ≤ 262144) (hx8 : f.xs.length ≤ 1000000) :
    Calls Try.prog 56 #[.pointer (some ⟨F, 0, none⟩)] w fun e w' => ∃ F' bp yp cp cc, e = .returned (.pointer (some ⟨F', 0, none⟩)) ∧ FileAt w.heap.size w' F' (f.twin bp yp cp cc) ∧ Below w.heap.size w w' := by
  have c0 := h.c0
  have c1 := h.c1
  have c2 := h.c2
  have c3 := h.c3
  have H := hide h
  have HD := hide (show FileAt base w.drew F f from h.same (fun _ _ => rfl))
  have FK := hide (fun (W1 W2 W3 : World) b1 b2 b3 => h.forked (W1 := W1) (W2 := W2) (W3 := W3) b1 b2 b3)
  obtain ⟨fbp, fbc, fb, fyp, fyc, fy, fla, fcp, fcc, fxs⟩ := f
  simp only at c0 c1 c2 c3 hb8 hy8 hx8 FK
  generalize hn : fb.length = n at *
  generalize hm : fy.length = m at *
  generalize hk : fxs.length = k at *
  have HN := hide hn
  have HM := hide hm
  have HK := hide hk
  clear h hn hm hk
  have C1 := hide (fresh_calls fbp n fbc fb w.drew (unhide HN) (by omega) (unhide HD).bytes.bytes (unhide HD).bytes.nil0)
  have C2 := hide (fun (W1 : World) (b1 : Below w.heap.size w W1) => fresh_calls fyp m fyc fy W1 (unhide HM) (by omega) ((unhide H).later b1).sure.bytes (unhide H).sure.nil0)
  have CC := hide (fun (W2 : World) (b2 : Below w.heap.size w W2) => cloneC_calls base W2 fcp fcc fxs (((unhide H).later b2).chs) (by have := unhide HK; omega))
  rw [unhide HK] at CC
  have SS := hide (show ∀ W : World, Below w.heap.size w W → W.cell? ⟨F, 0, none⟩ = some (.slice fbp n fbc) ∧ W.cell? ⟨F, 1, none⟩ = some (.slice fyp m fyc) ∧ W.cell? ⟨F, 2, none⟩ = some (.bool fla) ∧ W.cell? ⟨F, 3, none⟩ = some (.slice fcp k fcc) from fun W hb => ⟨cell_later hb c0, cell_later hb c1, cell_later hb c2, cell_later hb c3⟩)
  go_enter Try.func56, Try.ntmps56
  go_wp2_with fail
  refine wp_region_held_drew (S := fun w' => w'.cell? ⟨F, 0, none⟩ = some (.slice fbp n fbc) ∧ w'.cell? ⟨F, 1, none⟩ = some (.slice fyp m fyc) ∧ w'.cell? ⟨F, 2, none⟩ = some (.bool fla) ∧ w'.cell? ⟨F, 3, none⟩ = some (.slice fcp k fcc)) (by kernel_rfl) ?_ (fun hHeld => ?_)
  · try dsimp only
    first | (have hV : B03 = B03 := rfl; clear hV; first | exact unhide SS _ (unhide B03) | exact unhide SS _ ((unhide B03).alloc (unhide B03).size _)) | exact unhide SS _ (unhide B02) | exact unhide SS _ (unhide B1) | exact ⟨c0, c1, c2, c3⟩
  refine held_take 0 (oi := { dst := some 3, op := Op.move (Operand.tmp 0), type := 69, pos := "file.go:85", after := #[], guard := none }) (v := ?_) (by kernel_rfl) rfl (by rfl) (by kernel_rfl) (by kernel_rfl) (fun _ _ _ h => h) ?_ (by assumption) ?_
  rotate_left
  · (intro w hSw; (try dsimp only at hSw); go_simp; try with_reducible rfl)
  try simp only [Act.put, List.setIfInBounds_toArray, List.set_cons_zero, List.set_cons_succ]
  refine held_take 1 (oi := { dst := some 4, op := Op.nilCheck (Operand.tmp 3), type := 0, pos := "file.go:85", after := #[{ on := 0, ground := Ground.data }], guard := none }) (v := ?_) (by kernel_rfl) rfl (by rfl) (by kernel_rfl) (by kernel_rfl) (fun _ _ _ h => h) ?_ (by assumption) ?_
  rotate_left
  · (intro w hSw; (try dsimp only at hSw); go_simp; try with_reducible rfl)
  try simp only [Act.put, List.setIfInBounds_toArray, List.set_cons_zero, List.set_cons_succ]
  refine held_take 2 (oi := { dst := some 5, op := Op.fieldAddr 75 (Operand.tmp 4) 0, type := 0, pos := "file.go:85", after := #[{ on := 1, ground := Ground.data }], guard := none }) (v := ?_) (by kernel_rfl) rfl (by rfl) (by kernel_rfl) (by kernel_rfl) (fun _ _ _ h => h) ?_ (by assumption) ?_
  rotate_left
  · (intro w hSw; (try dsimp only at hSw); go_simp; try with_reducible rfl)
  try simp only [Act.put, List.setIfInBounds_toArray, List.set_cons_zero, List.set_cons_succ]
  refine held_take 3 (oi := { dst := some 6, op := Op.load 28 (Operand.tmp 5), type := 28, pos := "file.go:85", after := #[{ on := 2, ground := Ground.data }], guard := none }) (v := ?_) (by kernel_rfl) rfl (by rfl) (by kernel_rfl) (by kernel_rfl) (fun _ _ _ h => h) ?_ (by assumption) ?_
  rotate_left
  · (intro w hSw; (try dsimp only at hSw); go_simp; try with_reducible rfl)
  try simp only [Act.put, List.setIfInBounds_toArray, List.set_cons_zero, List.set_cons_succ]
  refine held_take 5 (oi := { dst := some 8, op := Op.move (Operand.tmp 0), type := 69, pos := "file.go:85", after := #[], guard := none }) (v := ?_) (by kernel_rfl) rfl (by rfl) (by kernel_rfl) (by kernel_rfl) (fun _ _ _ h => h) ?_ (by assumption) ?_
  rotate_left
  · (intro w hSw; (try dsimp only at hSw); go_simp; try with_reducible rfl)
  try simp only [Act.put, List.setIfInBounds_toArray, List.set_cons_zero, List.set_cons_succ]
  refine held_take 6 (oi := { dst := some 9, op := Op.nilCheck (Operand.tmp 8), type := 0, pos := "file.go:85", after := #[{ on := 5, ground := Ground.data }], guard := none }) (v := ?_) (by kernel_rfl) rfl (by rfl) (by kernel_rfl) (by kernel_rfl) (fun _ _ _ h => h) ?_ (by assumption) ?_
  rotate_left
  · (intro w hSw; (try dsimp only at hSw); go_simp; try with_reducible rfl)
  try simp only [Act.put, List.setIfInBounds_toArray, List.set_cons_zero, List.set_cons_succ]
  refine held_take 7 (oi := { dst := some 10, op := Op.fieldAddr 75 (Operand.tmp 9) 1, type := 0, pos := "file.go:85", after := #[{ on := 6, ground := Ground.data }], guard := none }) (v := ?_) (by kernel_rfl) rfl (by rfl) (by kernel_rfl) (by kernel_rfl) (fun _ _ _ h => h) ?_ (by assumption) ?_
  rotate_left
  · (intro w hSw; (try dsimp only at hSw); go_simp; try with_reducible rfl)
  try simp only [Act.put, List.setIfInBounds_toArray, List.set_cons_zero, List.set_cons_succ]
  refine held_take 8 (oi := { dst := some 11, op := Op.load 28 (Operand.tmp 10), type := 28, pos := "file.go:85", after := #[{ on := 7, ground := Ground.data }], guard := none }) (v := ?_) (by kernel_rfl) rfl (by rfl) (by kernel_rfl) (by kernel_rfl) (fun _ _ _ h => h) ?_ (by assumption) ?_
  rotate_left
  · (intro w hSw; (try dsimp only at hSw); go_simp; try with_reducible rfl)
  try simp only [Act.put, List.setIfInBounds_toArray, List.set_cons_zero, List.set_cons_succ]
  refine held_take 10 (oi := { dst := some 13, op := Op.move (Operand.tmp 0), type := 69, pos := "file.go:85", after := #[], guard := none }) (v := ?_) (by kernel_rfl) rfl (by rfl) (by kernel_rfl) (by kernel_rfl) (fun _ _ _ h => h) ?_ (by assumption) ?_
  rotate_left
  · (intro w hSw; (try dsimp only at hSw); go_simp; try with_reducible rfl)
  try simp only [Act.put, List.setIfInBounds_toArray, List.set_cons_zero, List.set_cons_succ]
  refine held_take 11 (oi := { dst := some 14, op := Op.nilCheck (Operand.tmp 13), type := 0, pos := "file.go:85", after := #[{ on := 10, ground := Ground.data }], guard := none }) (v := ?_) (by kernel_rfl) rfl (by rfl) (by kernel_rfl) (by kernel_rfl) (fun _ _ _ h => h) ?_ (by assumption) ?_
  rotate_left
  · (intro w hSw; (try dsimp only at hSw); go_simp; try with_reducible rfl)
  try simp only [Act.put, List.setIfInBounds_toArray, List.set_cons_zero, List.set_cons_succ]
  refine held_take 12 (oi := { dst := some 15, op := Op.fieldAddr 75 (Operand.tmp 14) 2, type := 0, pos := "file.go:85", after := #[{ on := 11, ground := Ground.data }], guard := none }) (v := ?_) (by kernel_rfl) rfl (by rfl) (by kernel_rfl) (by kernel_rfl) (fun _ _ _ h => h) ?_ (by assumption) ?_
  rotate_left
  · (intro w hSw; (try dsimp only at hSw); go_simp; try with_reducible rfl)
  try simp only [Act.put, List.setIfInBounds_toArray, List.set_cons_zero, List.set_cons_succ]
  refine held_take 13 (oi := { dst := some 16, op := Op.load 4 (Operand.tmp 15), type := 4, pos := "file.go:85", after := #[{ on := 12, ground := Ground.data }], guard := none }) (v := ?_) (by kernel_rfl) rfl (by rfl) (by kernel_rfl) (by kernel_rfl) (fun _ _ _ h => h) ?_ (by assumption) ?_
  rotate_left
  · (intro w hSw; (try dsimp only at hSw); go_simp; try with_reducible rfl)
  try simp only [Act.put, List.setIfInBounds_toArray, List.set_cons_zero, List.set_cons_succ]
  refine held_take 14 (oi := { dst := some 17, op := Op.move (Operand.tmp 0), type := 69, pos := "file.go:85", after := #[], guard := none }) (v := ?_) (by kernel_rfl) rfl (by rfl) (by kernel_rfl) (by kernel_rfl) (fun _ _ _ h => h) ?_ (by assumption) ?_
  rotate_left
  · (intro w hSw; (try dsimp only at hSw); go_simp; try with_reducible rfl)
  try simp only [Act.put, List.setIfInBounds_toArray, List.set_cons_zero, List.set_cons_succ]
  refine held_take 15 (oi := { dst := some 18, op := Op.nilCheck (Operand.tmp 17), type := 0, pos := "file.go:85", after := #[{ on := 14, ground := Ground.data }], guard := none }) (v := ?_) (by kernel_rfl) rfl (by rfl) (by kernel_rfl) (by kernel_rfl) (fun _ _ _ h => h) ?_ (by assumption) ?_
  rotate_left
  · (intro w hSw; (try dsimp only at hSw); go_simp; try with_reducible rfl)
  try simp only [Act.put, List.setIfInBounds_toArray, List.set_cons_zero, List.set_cons_succ]
  refine held_take 16 (oi := { dst := some 19, op := Op.fieldAddr 75 (Operand.tmp 18) 3, type := 0, pos := "file.go:85", after := #[{ on := 15, ground := Ground.data }], guard := none }) (v := ?_) (by kernel_rfl) rfl (by rfl) (by kernel_rfl) (by kernel_rfl) (fun _ _ _ h => h) ?_ (by assumption) ?_
  rotate_left
  · (intro w hSw; (try dsimp only at hSw); go_simp; try with_reducible rfl)
  try simp only [Act.put, List.setIfInBounds_toArray, List.set_cons_zero, List.set_cons_succ]
  refine held_take 17 (oi := { dst := some 20, op := Op.load 73 (Operand.tmp 19), type := 73, pos := "file.go:85", after := #[{ on := 16, ground := Ground.data }], guard := none }) (v := ?_) (by kernel_rfl) rfl (by rfl) (by kernel_rfl) (by kernel_rfl) (fun _ _ _ h => h) ?_ (by assumption) ?_
  rotate_left
  · (intro w hSw; (try dsimp only at hSw); go_simp; try with_reducible rfl)
  try simp only [Act.put, List.setIfInBounds_toArray, List.set_cons_zero, List.set_cons_succ]
  refine held_one 4 (oi := { dst := some 7, op := Op.call { callee := Callee.value (Operand.func 44), args := #[Operand.tmp 6], argTypes := #[28] }, type := 28, pos := "file.go:85", after := #[{ on := 3, ground := Ground.data }], guard := none }) (by kernel_rfl) rfl (fun K hK => ?_)
  go_simp
  first
    | (have hV : dq = dq := rfl
       clear hV
       go_at_call 67
       refine (unhide CC W2 (unhide B02)).mono ?_
       rintro e W3 ⟨cp3, cc3, rfl, ho3, hb3⟩
       have O3 := hide (show OwnC W2.heap.size W3 cp3 cc3 fxs from ho3)
       have B3 := hide (show Below W2.heap.size W2 W3 from ⟨hb3.os, hb3.tape, hb3.output, hb3.size, hb3.block⟩)
       have B03 := hide ((unhide B02).trans ((unhide B3).mono (unhide B02).size))
       clear ho3 hb3)
    | (have hV : dp = dp := rfl
       clear hV
       go_at_call 44
       refine (unhide C2 W1 (unhide B1)).mono ?_
       rintro e W2 ⟨dq, rfl, hd2, hb2⟩
       have D2 := hide (show Bx W1.heap.size W2 dq m fy from hd2)
       have B2 := hide (show Below W1.heap.size W1 W2 from ⟨hb2.os, hb2.tape, hb2.output, hb2.size, hb2.block⟩)
       have B02 := hide ((unhide B1).trans ((unhide B2).mono (unhide B1).size))
       clear hd2 hb2)
    | (go_at_call 44
       refine (unhide C1).mono ?_
       rintro e W1 ⟨dp, rfl, hd1, hb1⟩
       have D1 := hide (show Bx w.heap.size W1 dp n fb from hd1)
       have B1 := hide (show Below w.heap.size w W1 from ⟨hb1.os, hb1.tape, hb1.output, hb1.size, hb1.block⟩)
       clear hd1 hb1)
  go_wp2_with fail
  refine hK.out _ _ ?_ (fun hHeld => ?_)
  · try dsimp only
    first | (have hV : B03 = B03 := rfl; clear hV; first | exact unhide SS _ (unhide B03) | exact unhide SS _ ((unhide B03).alloc (unhide B03).size _)) | exact unhide SS _ (unhide B02) | exact unhide SS _ (unhide B1) | exact ⟨c0, c1, c2, c3⟩
  clear hK K
  try simp only [Act.put, List.setIfInBounds_toArray, List.set_cons_zero, List.set_cons_succ]
  refine held_one 9 (oi := { dst := some 12, op := Op.call { callee := Callee.value (Operand.func 44), args := #[Operand.tmp 11], argTypes := #[28] }, type := 28, pos := "file.go:85", after := #[{ on := 8, ground := Ground.data }, { on := 4, ground := Ground.chain }], guard := none }) (by kernel_rfl) rfl (fun K hK => ?_)
  go_simp
  first
    | (have hV : dq = dq := rfl
       clear hV
       go_at_call 67
       refine (unhide CC W2 (unhide B02)).mono ?_
       rintro e W3 ⟨cp3, cc3, rfl, ho3, hb3⟩
       have O3 := hide (show OwnC W2.heap.size W3 cp3 cc3 fxs from ho3)
       have B3 := hide (show Below W2.heap.size W2 W3 from ⟨hb3.os, hb3.tape, hb3.output, hb3.size, hb3.block⟩)
       have B03 := hide ((unhide B02).trans ((unhide B3).mono (unhide B02).size))
       clear ho3 hb3)
    | (have hV : dp = dp := rfl
       clear hV
       go_at_call 44
       refine (unhide C2 W1 (unhide B1)).mono ?_
       rintro e W2 ⟨dq, rfl, hd2, hb2⟩
       have D2 := hide (show Bx W1.heap.size W2 dq m fy from hd2)
       have B2 := hide (show Below W1.heap.size W1 W2 from ⟨hb2.os, hb2.tape, hb2.output, hb2.size, hb2.block⟩)
       have B02 := hide ((unhide B1).trans ((unhide B2).mono (unhide B1).size))
       clear hd2 hb2)
    | (go_at_call 44
       refine (unhide C1).mono ?_
       rintro e W1 ⟨dp, rfl, hd1, hb1⟩
       have D1 := hide (show Bx w.heap.size W1 dp n fb from hd1)
       have B1 := hide (show Below w.heap.size w W1 from ⟨hb1.os, hb1.tape, hb1.output, hb1.size, hb1.block⟩)
       clear hd1 hb1)
  go_wp2_with fail
  refine hK.out _ _ ?_ (fun hHeld => ?_)
  · try dsimp only
    first | (have hV : B03 = B03 := rfl; clear hV; first | exact unhide SS _ (unhide B03) | exact unhide SS _ ((unhide B03).alloc (unhide B03).size _)) | exact unhide SS _ (unhide B02) | exact unhide SS _ (unhide B1) | exact ⟨c0, c1, c2, c3⟩
  clear hK K
  try simp only [Act.put, List.setIfInBounds_toArray, List.set_cons_zero, List.set_cons_succ]
  refine held_one 18 (oi := { dst := some 21, op := Op.call { callee := Callee.value (Operand.func 67), args := #[Operand.tmp 20], argTypes := #[73] }, type := 73, pos := "file.go:85", after := #[{ on := 17, ground := Ground.data }, { on := 9, ground := Ground.chain }], guard := none }) (by kernel_rfl) rfl (fun K hK => ?_)
  go_simp
  first
    | (have hV : dq = dq := rfl
       clear hV
       go_at_call 67
       refine (unhide CC W2 (unhide B02)).mono ?_
       rintro e W3 ⟨cp3, cc3, rfl, ho3, hb3⟩
       have O3 := hide (show OwnC W2.heap.size W3 cp3 cc3 fxs from ho3)
       have B3 := hide (show Below W2.heap.size W2 W3 from ⟨hb3.os, hb3.tape, hb3.output, hb3.size, hb3.block⟩)
       have B03 := hide ((unhide B02).trans ((unhide B3).mono (unhide B02).size))
       clear ho3 hb3)
    | (have hV : dp = dp := rfl
       clear hV
       go_at_call 44
       refine (unhide C2 W1 (unhide B1)).mono ?_
       rintro e W2 ⟨dq, rfl, hd2, hb2⟩
       have D2 := hide (show Bx W1.heap.size W2 dq m fy from hd2)
       have B2 := hide (show Below W1.heap.size W1 W2 from ⟨hb2.os, hb2.tape, hb2.output, hb2.size, hb2.block⟩)
       have B02 := hide ((unhide B1).trans ((unhide B2).mono (unhide B1).size))
       clear hd2 hb2)
    | (go_at_call 44
       refine (unhide C1).mono ?_
       rintro e W1 ⟨dp, rfl, hd1, hb1⟩
       have D1 := hide (show Bx w.heap.size W1 dp n fb from hd1)
       have B1 := hide (show Below w.heap.size w W1 from ⟨hb1.os, hb1.tape, hb1.output, hb1.size, hb1.block⟩)
       clear hd1 hb1)
  go_wp2_with fail
  refine hK.out _ _ ?_ (fun hHeld => ?_)
  · try dsimp only
    first | (have hV : B03 = B03 := rfl; clear hV; first | exact unhide SS _ (unhide B03) | exact unhide SS _ ((unhide B03).alloc (unhide B03).size _)) | exact unhide SS _ (unhide B02) | exact unhide SS _ (unhide B1) | exact ⟨c0, c1, c2, c3⟩
  clear hK K
  try simp only [Act.put, List.setIfInBounds_toArray, List.set_cons_zero, List.set_cons_succ]
  refine held_take 19 (oi := { dst := some 22, op := Op.build 75 #[(0, Operand.tmp 7), (1, Operand.tmp 12), (2, Operand.tmp 16), (3, Operand.tmp 21)], type := 75, pos := "file.go:85", after := #[{ on := 4, ground := Ground.data }, { on := 9, ground := Ground.data }, { on := 13, ground := Ground.data }, { on := 18, ground := Ground.data }], guard := none }) (v := ?_) (by kernel_rfl) rfl (by rfl) (by kernel_rfl) (by kernel_rfl) (fun _ _ _ h => h) ?_ (by assumption) ?_
  rotate_left
  · (intro w hSw; (try dsimp only at hSw); go_simp; try with_reducible rfl)
  try simp only [Act.put, List.setIfInBounds_toArray, List.set_cons_zero, List.set_cons_succ]
  refine held_one 20 (oi := { dst := some 23, op := Op.box 75 (Operand.tmp 22), type := 69, pos := "file.go:85", after := #[{ on := 19, ground := Ground.data }], guard := none }) (by kernel_rfl) rfl (fun K hK => ?_)
  go_simp
  go_wp2_with fail
  refine hK.out _ _ ?_ (fun hHeld => ?_)
  · try dsimp only
    first | (have hV : B03 = B03 := rfl; clear hV; first | exact unhide SS _ (unhide B03) | exact unhide SS _ ((unhide B03).alloc (unhide B03).size _)) | exact unhide SS _ (unhide B02) | exact unhide SS _ (unhide B1) | exact ⟨c0, c1, c2, c3⟩
  clear hK K
  try simp only [Act.put, List.setIfInBounds_toArray, List.set_cons_zero, List.set_cons_succ]
  refine held_take 21 (oi := { dst := some 2, op := Op.assign (Operand.tmp 23), type := 69, pos := "file.go:85", after := #[{ on := 20, ground := Ground.data }, { on := 18, ground := Ground.chain }, { on := 0, ground := Ground.phase }, { on := 1, ground := Ground.phase }, { on := 2, ground := Ground.phase }, { on := 3, ground := Ground.phase }, { on := 4, ground := Ground.phase }, { on := 5, ground := Ground.phase }, { on := 6, ground := Ground.phase }, { on := 7, ground := Ground.phase }, { on := 8, ground := Ground.phase }, { on := 9, ground := Ground.phase }, { on := 10, ground := Ground.phase }, { on := 11, ground := Ground.phase }, { on := 12, ground := Ground.phase }, { on := 13, ground := Ground.phase }, { on := 14, ground := Ground.phase }, { on := 15, ground := Ground.phase }, { on := 16, ground := Ground.phase }, { on := 17, ground := Ground.phase }, { on := 18, ground := Ground.phase }, { on := 19, ground := Ground.phase }, { on := 20, ground := Ground.phase }], guard := none }) (v := ?_) (by kernel_rfl) rfl (by rfl) (by kernel_rfl) (by kernel_rfl) (fun _ _ _ h => h) ?_ (by assumption) ?_
  rotate_left
  · (intro w hSw; (try dsimp only at hSw); go_simp; try with_reducible rfl)
  try simp only [Act.put, List.setIfInBounds_toArray, List.set_cons_zero, List.set_cons_succ]
  refine wpAnyH_done (by kernel_rfl) ?_ _
  have FF := hide (unhide FK W1 W2 W3 (unhide B1) (unhide B2) (unhide B3) dp dq cp3 cc3 (unhide D1) (unhide D2) (unhide O3))
  go_wp2
  go_ret
  exact ⟨W3.heap.size, dp, dq, cp3, cc3, rfl, (unhide FF).1, (unhide FF).2⟩
theorem FOk.twin {N : Nat} {f : Fil} (h : FOk N f) (bp yp cp : Option Addr) (cc : Nat) : FOk N (f.twin bp yp cp cc) := ⟨h.now, h.fit, h.small, h.y8, h.b8, h.few, h.gone⟩
section
variable {base d M room N : Nat} {w w' w0 : World} {fs fs' : List Fe}
/-- A new file comes to it, whose changes' bytes may lie anywhere else. -/
theorem DiskAt.addF (h : DiskAt base w d M room N fs) (k : Nm) (hk : k.length ≤ 64) (hnew : k ∉ fs.map (·.1)) (F : Nat) (f : Fil) (hf : FileAt base w F f) (hok : FOk N f) (hfew : fs.length < 16)
    (hmut : ∀ g, f.mut F g → ¬ DMut d M fs g ∧ ¬ DRed fs g) (hred : ∀ g, f.red g → ¬ DMut d M fs g) (hgr : w.grownBy w' (some M)) (hm : MapAt w' M (putF k F (ptrs fs))) :
    DiskAt base w' d M room N (putF k (F, f) fs) := by
  have hmem := fun (y : Fe) => mem_putF (k := k) (v := (F, f)) h.rise y
  have hkk : ∀ g, g < w.heap.size → g ≠ M → w'.heap[g]? = w.heap[g]? := fun g hlt hne => hgr.block g hlt (fun e => hne (Option.some.inj e))
  refine ⟨(hkk d h.ltD h.dm).trans h.box, by rw [ptrs_put]; exact hm, h.rise.put _ _, ?_, ?_, h.lowD, h.lowM, ?_, ?_, ?_, ?_⟩
  · intro y hy
    rcases (hmem y).1 hy with rfl | ⟨hy, _⟩
    · refine hf.same (fun g hg => ?_)
      rcases hg with hg | hg
      · exact hkk g (hf.mut_lt hg).2 (fun e => (hmut g hg).1 (.inr (.inl e)))
      · exact hkk g (hf.red_lt hg).2.1 (fun e => hred g hg (.inr (.inl e)))
    · refine (h.file y hy).same (fun g hg => ?_)
      rcases hg with hg | hg
      · exact hkk g ((h.file y hy).mut_lt hg).2 (fun e => (h.notM hy).1 (e ▸ hg))
      · exact hkk g ((h.file y hy).red_lt hg).2.1 (fun e => (h.notM hy).2 (e ▸ hg))
  · intro y hy
    rcases (hmem y).1 hy with rfl | ⟨hy, _⟩
    · exact hok
    · exact h.ok y hy
  · intro y hy z hz hne g hyg hzg
    rcases (hmem y).1 hy with rfl | ⟨hy, _⟩ <;> rcases (hmem z).1 hz with rfl | ⟨hz, _⟩
    · exact hne rfl
    · exact (hmut g hyg).1 (.inr (.inr ⟨z, hz, hzg⟩))
    · exact (hmut g hzg).1 (.inr (.inr ⟨y, hy, hyg⟩))
    · exact h.ap y hy z hz hne g hyg hzg
  · intro y hy z hz g hyg hzg
    rcases (hmem y).1 hy with rfl | ⟨hy, _⟩ <;> rcases (hmem z).1 hz with rfl | ⟨hz, _⟩
    · exact hf.self hyg hzg
    · exact (hmut g hyg).2 ⟨z, hz, hzg⟩
    · exact hred g hzg (.inr (.inr ⟨y, hy, hyg⟩))
    · exact h.rd y hy z hz g hyg hzg
  · rw [putF_length h.rise, if_neg hnew]
    omega
  · intro y hy
    rcases (hmem y).1 hy with rfl | ⟨hy, _⟩
    · exact hk
    · exact h.names y hy
theorem putF_last {α : Type} {k : Nm} {v : α} : ∀ (l : List (Nm × α)), (∀ x ∈ l, x.1 < k) → putF k v l = l ++ [(k, v)]
  | [], _ => rfl
  | x :: l, h => by
    unfold putF
    rw [if_pos (h x List.mem_cons_self), putF_last l (fun y hy => h y (List.mem_cons_of_mem _ hy))]
    rfl
theorem enter_fork (c : Array Value) (w : World) : (callFunc 55 c).run Try.prog w = .ok (.enter 55 c) w := by
  simp [callFunc, go_sem, Try.func55]
  rw [if_neg (by decide +kernel), if_neg (fun h => by cases h)]
set_option maxRecDepth 20000 in
set_option maxHeartbeats 4000000 in
theorem fork1_calls {bo : Nat} (h : DiskAt base w d M room N fs) (hbs : base ≤ w.heap.size) (hN : N ≤ 1000000) (nm : Nm) (hnm : nm.length ≤ 64) (hnew : nm ∉ fs.map (·.1)) (hfew : fs.length < 16) (F Q : Nat) (f : Fil) (hf : FileAt bo w F f) (hok : FOk N f) (hred : ∀ g, f.red g → g < base) (hQ : w.heap[Q]? = some (.cells #[.pointer (some ⟨d, 0, none⟩)] 23 (0, 0))) :
    Calls Try.prog 55 #[.string (str nm), .pointer (some ⟨F, 0, none⟩), .pointer (some ⟨Q, 0, none⟩)] w fun e w' => e = .returned (.tuple #[]) ∧ ∃ F' bp yp cp cc, DiskAt base w' d M room N (putF nm (F', f.twin bp yp cp cc) fs) ∧ (∀ g, g < w.heap.size → g ≠ M → w'.heap[g]? = w.heap[g]?) ∧ (w'.os = w.os ∧ w'.tape = w.tape ∧ w'.output = w.output ∧ w.heap.size ≤ w'.heap.size) := by
  have b8 := hok.b8
  have y8 := hok.y8
  have x8 := hok.few
  have c0 := fcell hQ 0 _ rfl
  have c1 := h.c1
  have FC := hide (fun (W : World) (hb : W = w.drew) => ffork_calls (w := W) (hf.same (fun g _ => by rw [hb]; rfl)) b8 y8 (by omega))
  have EN := hide (show ∀ (W : World) (F' : Nat) (bp yp cp : Option Addr) (cc : Nat), FileAt w.heap.size W F' (f.twin bp yp cp cc) → Below w.heap.size w W → ∃ W4, (Instr.mapUpdate 63 (.map (some M)) (.string (str nm)) (.pointer (some ⟨F', 0, none⟩))).run Try.prog W = .ok () W4 ∧ DiskAt base W4 d M room N (putF nm (F', f.twin bp yp cp cc) fs) ∧ (∀ g, g < w.heap.size → g ≠ M → W4.heap[g]? = w.heap[g]?) ∧ (W4.os = w.os ∧ W4.tape = w.tape ∧ W4.output = w.output ∧ w.heap.size ≤ W4.heap.size) from fun W F' bp yp cp cc hF hb => by
    have h1 := h.later hb
    obtain ⟨W4, hu, hm4, hg4, _⟩ := h1.map.store (h1.rise.map (fun x : Nat × Fil => x.1)) (str nm) (by rw [str_size]; simp only [maxLen]; omega) F' (by rw [ptrs, List.length_map]; omega)
    refine ⟨W4, hu, h1.addF nm hnm hnew F' _ ?_ (hok.twin bp yp cp cc) hfew (fun g hg => ⟨fun hm => ?_, fun hm => ?_⟩) (fun g hg hm => ?_) hg4 hm4, fun g hg hne => (hg4.block g (Nat.lt_of_lt_of_le hg hb.size) (fun e => hne (Option.some.inj e))).trans (hb.block g hg), hg4.os.trans hb.os, hg4.tape.trans hb.tape, hg4.output.trans hb.output, Nat.le_trans hb.size hg4.size⟩
    · exact ⟨hF.box, hF.bytes.mono hbs, hF.sure.mono hbs, hF.chs.mono hbs, Nat.le_trans hbs hF.low, hF.apart, hF.far⟩
    · have := (hF.mut_lt hg).1
      have := (h.mut_lt hm).2
      omega
    · have := (hF.mut_lt hg).1
      have := (h.red_lt hm).2
      omega
    · have := hred g hg
      have := (h.mut_lt hm).1
      omega)
  have KQ := hide (show ∀ W4 : World, (∀ g, g < w.heap.size → g ≠ M → W4.heap[g]? = w.heap[g]?) → W4.cell? ⟨Q, 0, none⟩ = some (.pointer (some ⟨d, 0, none⟩)) ∧ W4.cell? ⟨d, 1, none⟩ = some (.map (some M)) from fun W4 hs => by
    refine ⟨fcell ((hs Q (Array.getElem?_eq_some_iff.1 hQ).1 (fun e => ?_)).trans hQ) 0 _ rfl, fcell ((hs d h.ltD h.dm).trans h.box) 1 _ rfl⟩
    obtain ⟨es, q, hm⟩ := h.map.isMap
    rw [← e, hQ] at hm
    simp at hm)
  clear h hbs hf hok hred hQ b8 y8 x8
  go_enter Try.func55, Try.ntmps55
  refine wp_region_held_drew (S := fun w' => w'.cell? ⟨Q, 0, none⟩ = some (.pointer (some ⟨d, 0, none⟩)) ∧ w'.cell? ⟨d, 1, none⟩ = some (.map (some M))) (by kernel_rfl) ?_ (fun hHeld => ?_)
  · try dsimp only
    first | exact ⟨c0, c1⟩ | exact ⟨cell_later (unhide B1) c0, cell_later (unhide B1) c1⟩ | exact unhide K4
  refine held_take 0 (oi := { dst := some 5, op := Op.load 23 (Operand.tmp 2), type := 23, pos := "disk.go:195", after := #[], guard := none }) (v := ?_) (by kernel_rfl) rfl (by rfl) (by kernel_rfl) (by kernel_rfl) (fun _ _ _ h => h) ?_ (by assumption) ?_
  rotate_left
  · (intro w hSw; (try dsimp only at hSw); go_simp; try with_reducible rfl)
  try simp only [Act.put, List.setIfInBounds_toArray, List.set_cons_zero, List.set_cons_succ]
  refine held_take 1 (oi := { dst := some 6, op := Op.nilCheck (Operand.tmp 5), type := 0, pos := "disk.go:195", after := #[{ on := 0, ground := Ground.data }], guard := none }) (v := ?_) (by kernel_rfl) rfl (by rfl) (by kernel_rfl) (by kernel_rfl) (fun _ _ _ h => h) ?_ (by assumption) ?_
  rotate_left
  · (intro w hSw; (try dsimp only at hSw); go_simp; try with_reducible rfl)
  try simp only [Act.put, List.setIfInBounds_toArray, List.set_cons_zero, List.set_cons_succ]
  refine held_take 2 (oi := { dst := some 7, op := Op.fieldAddr 65 (Operand.tmp 6) 1, type := 0, pos := "disk.go:195", after := #[{ on := 1, ground := Ground.data }], guard := none }) (v := ?_) (by kernel_rfl) rfl (by rfl) (by kernel_rfl) (by kernel_rfl) (fun _ _ _ h => h) ?_ (by assumption) ?_
  rotate_left
  · (intro w hSw; (try dsimp only at hSw); go_simp; try with_reducible rfl)
  try simp only [Act.put, List.setIfInBounds_toArray, List.set_cons_zero, List.set_cons_succ]
  refine held_take 3 (oi := { dst := some 8, op := Op.load 63 (Operand.tmp 7), type := 63, pos := "disk.go:195", after := #[{ on := 2, ground := Ground.data }], guard := none }) (v := ?_) (by kernel_rfl) rfl (by rfl) (by kernel_rfl) (by kernel_rfl) (fun _ _ _ h => h) ?_ (by assumption) ?_
  rotate_left
  · (intro w hSw; (try dsimp only at hSw); go_simp; try with_reducible rfl)
  try simp only [Act.put, List.setIfInBounds_toArray, List.set_cons_zero, List.set_cons_succ]
  refine held_take 4 (oi := { dst := some 9, op := Op.move (Operand.tmp 0), type := 9, pos := "disk.go:195", after := #[], guard := none }) (v := ?_) (by kernel_rfl) rfl (by rfl) (by kernel_rfl) (by kernel_rfl) (fun _ _ _ h => h) ?_ (by assumption) ?_
  rotate_left
  · (intro w hSw; (try dsimp only at hSw); go_simp; try with_reducible rfl)
  try simp only [Act.put, List.setIfInBounds_toArray, List.set_cons_zero, List.set_cons_succ]
  refine held_take 5 (oi := { dst := some 10, op := Op.move (Operand.tmp 1), type := 69, pos := "disk.go:195", after := #[], guard := none }) (v := ?_) (by kernel_rfl) rfl (by rfl) (by kernel_rfl) (by kernel_rfl) (fun _ _ _ h => h) ?_ (by assumption) ?_
  rotate_left
  · (intro w hSw; (try dsimp only at hSw); go_simp; try with_reducible rfl)
  try simp only [Act.put, List.setIfInBounds_toArray, List.set_cons_zero, List.set_cons_succ]
  refine held_one 6 (oi := { dst := some 11, op := Op.call { callee := Callee.value (Operand.func 56), args := #[Operand.tmp 10], argTypes := #[69] }, type := 69, pos := "disk.go:195", after := #[{ on := 5, ground := Ground.data }], guard := none }) (by kernel_rfl) rfl (fun K hK => ?_)
  go_simp
  first
    | (go_at_call 56
       refine (unhide FC _ rfl).mono ?_
       rintro e W1 ⟨F', bp, yp, cp, cc, rfl, hf1, hb1⟩
       have B1 := hide (show Below w.heap.size w W1 from ⟨hb1.os, hb1.tape, hb1.output, hb1.size, hb1.block⟩)
       obtain ⟨W4, hu, hq1, hq2, hq3⟩ := unhide EN W1 F' bp yp cp cc hf1 (unhide B1)
       have K4 := hide (unhide KQ W4 hq2)
       have HQ1 := hide hq1
       have HQ2 := hide hq2
       have HQ3 := hide hq3
       clear hq1 hq2 hq3 hf1 hb1)
  go_wp2_with fail
  refine hK.out _ _ ?_ (fun hHeld => ?_)
  · try dsimp only
    first | exact ⟨c0, c1⟩ | exact ⟨cell_later (unhide B1) c0, cell_later (unhide B1) c1⟩ | exact unhide K4
  clear hK K
  try simp only [Act.put, List.setIfInBounds_toArray, List.set_cons_zero, List.set_cons_succ]
  refine held_one 7 (oi := { dst := none, op := Op.mapUpdate 63 (Operand.tmp 8) (Operand.tmp 9) (Operand.tmp 11), type := 0, pos := "disk.go:195", after := #[{ on := 3, ground := Ground.data }, { on := 4, ground := Ground.data }, { on := 6, ground := Ground.data }, { on := 6, ground := Ground.chain }, { on := 0, ground := Ground.phase }, { on := 1, ground := Ground.phase }, { on := 2, ground := Ground.phase }, { on := 3, ground := Ground.phase }, { on := 4, ground := Ground.phase }, { on := 5, ground := Ground.phase }, { on := 6, ground := Ground.phase }], guard := none }) (by kernel_rfl) rfl (fun K hK => ?_)
  go_simp
  go_wp2_with fail
  refine hK.out _ _ ?_ (fun hHeld => ?_)
  · try dsimp only
    first | exact ⟨c0, c1⟩ | exact ⟨cell_later (unhide B1) c0, cell_later (unhide B1) c1⟩ | exact unhide K4
  clear hK K
  try simp only [Act.put, List.setIfInBounds_toArray, List.set_cons_zero, List.set_cons_succ]
  refine wpAnyH_done (by kernel_rfl) ?_ _
  go_wp2
  go_end0
  exact ⟨rfl, F', bp, yp, cp, cc, unhide HQ1, unhide HQ2, unhide HQ3⟩
theorem Rises.take_lt {α : Type} {l : List (Nm × α)} (h : Rises l) (i : Nat) (hi : i < l.length) : ∀ x ∈ l.take i, x.1 < l[i].1 := by
  intro x hx
  obtain ⟨j, hj, rfl⟩ := List.getElem_of_mem hx
  rw [List.length_take] at hj
  rw [List.getElem_take]
  exact List.pairwise_iff_getElem.1 h j i (by omega) hi (by omega)
set_option maxRecDepth 20000 in
set_option maxHeartbeats 4000000 in
theorem dfork_calls (h : DiskAt base w d M room N fs) (hN : N ≤ 1000000) :
    Calls Try.prog 31 #[.pointer (some ⟨d, 0, none⟩)] w fun e w' => ∃ d' M' fs', e = .returned (.pointer (some ⟨d', 0, none⟩)) ∧ DiskAt w.heap.size w' d' M' room N fs' ∧ sps fs' = sps fs ∧ Below w.heap.size w w' := by
  have c0 := h.c0
  have NW := hide (dnew_calls (base := w.heap.size) w (Nat.le_refl _) (room : Int))
  rw [show (room : Int).toNat = room from rfl] at NW
  have EC := hide (show ∀ (W1 : World), DiskAt w.heap.size W1 (w.heap.size + 1) w.heap.size room 0 [] → Below w.heap.size w W1 → ∀ W3 : World, W3 = W1.alloc (.cells #[.pointer (some ⟨w.heap.size + 1, 0, none⟩)] 23) →
      Calls Try.prog 51 #[.pointer (some ⟨d, 0, none⟩), .func (.func 55) #[] #[.pointer (some ⟨W1.heap.size, 0, none⟩)]] W3 fun e w' => e = .returned (.tuple #[]) ∧ (w'.cell? ⟨W1.heap.size, 0, none⟩ = some (.pointer (some ⟨w.heap.size + 1, 0, none⟩)) ∧ ∃ fs', DiskAt w.heap.size w' (w.heap.size + 1) w.heap.size room N fs' ∧ sps fs' = sps fs ∧ Below w.heap.size w w') from fun W1 h1 b1 W3 hW3 => by
    have b3 : Below W1.heap.size W1 W3 := by rw [hW3]; exact (Below.refl _ _).alloc (Nat.le_refl _) _
    have b03 : Below w.heap.size w W3 := b1.trans (b3.mono b1.size)
    have hQ : W3.heap[W1.heap.size]? = some (.cells #[.pointer (some ⟨w.heap.size + 1, 0, none⟩)] 23 (0, 0)) := by rw [hW3]; exact heap_new _ _
    have s3 : W3.heap.size = W1.heap.size + 1 := by rw [hW3]; simp
    refine each_calls base d M room N W3 fs (h.later b03) 55 _ enter_fork (fun w' => w'.cell? ⟨W1.heap.size, 0, none⟩ = some (.pointer (some ⟨w.heap.size + 1, 0, none⟩)) ∧ ∃ fs', DiskAt w.heap.size w' (w.heap.size + 1) w.heap.size room N fs' ∧ sps fs' = sps fs ∧ Below w.heap.size w w') (fun W0 hb => ?_)
    have hb0 : Below w.heap.size w W0 := b03.trans (hb.mono b03.size)
    have hM1 : w.heap.size < W1.heap.size := h1.map.lt
    refine ⟨fun i w1 => ∃ fs', DiskAt w.heap.size w1 (w.heap.size + 1) w.heap.size room N fs' ∧ sps fs' = sps (fs.take i) ∧ (∀ g, g < W0.heap.size → g ≠ w.heap.size → w1.heap[g]? = W0.heap[g]?) ∧ (w1.os = W0.os ∧ w1.tape = W0.tape ∧ w1.output = W0.output ∧ W0.heap.size ≤ w1.heap.size), ?_, ?_, ?_, ?_⟩
    · exact ⟨[], ((h1.later b3).later hb).mono (Nat.zero_le _), by simp [sps], fun _ _ _ => rfl, rfl, rfl, rfl, Nat.le_refl _⟩
    · rintro i w1 ⟨_, _, _, hs, _⟩ g hg1 hg2
      exact hs g hg2 (by omega)
    · rintro i hi w1 ⟨fs', hd, hsp, hs, ho, ht, hou, hsz⟩
      have hold : ∀ g, g < w.heap.size → w1.heap[g]? = w.heap[g]? := fun g hg => (hs g (Nat.lt_of_lt_of_le hg hb0.size) (by omega)).trans (hb0.block g hg)
      have h2 := h.still hold
      have hx := List.getElem_mem hi
      have hq1 : w1.heap[W1.heap.size]? = some (.cells #[.pointer (some ⟨w.heap.size + 1, 0, none⟩)] 23 (0, 0)) := (hs _ (by have := hb.size; omega) (by omega)).trans ((hb.block _ (by omega)).trans hQ)
      have hle : fs'.length = i := by
        have := congrArg List.length hsp
        simp only [sps, List.length_map, List.length_take] at this
        omega
      have hnames : fs'.map (·.1) = (fs.take i).map (·.1) := by
        have := congrArg (List.map (·.1)) hsp
        simpa [sps, List.map_map, Function.comp_def] using this
      have hlt : ∀ x ∈ fs', x.1 < fs[i].1 := fun x hx' => by
        have : x.1 ∈ (fs.take i).map (·.1) := by rw [← hnames]; exact List.mem_map.2 ⟨x, hx', rfl⟩
        obtain ⟨y, hy, e⟩ := List.mem_map.1 this
        rw [← e]
        exact h.rise.take_lt i hi y hy
      refine ⟨h2.c1, h2.lookAt i hi, ?_⟩
      have h16 := h.few
      refine (fork1_calls hd (Nat.le_trans hb0.size hsz) hN fs[i].1 (h.names _ hx) (fun hm => ?_) (by omega) fs[i].2.1 W1.heap.size fs[i].2.2 (h2.file _ hx) (h.ok _ hx) (fun g hg => ((h.file _ hx).red_lt hg).2.1) hq1).mono ?_
      · obtain ⟨y, hy, e⟩ := List.mem_map.1 hm
        have := hlt y hy
        rw [e] at this
        exact nm_irrefl _ this
      · rintro e w2 ⟨rfl, F', bp, yp, cp, cc, k1, k2, k3, k4, k5, k6⟩
        refine ⟨rfl, _, k1, ?_, fun g hg hne => (k2 g (Nat.lt_of_lt_of_le hg hsz) hne).trans (hs g hg hne), k3.trans ho, k4.trans ht, k5.trans hou, Nat.le_trans hsz k6⟩
        rw [putF_last fs' hlt, List.take_succ_eq_append_getElem hi]
        simp only [sps, List.map_append, List.map_cons, List.map_nil] at hsp ⊢
        rw [hsp]
        rfl
    · rintro w1 ⟨fs', hd, hsp, hs, ho, ht, hou, hsz⟩
      rw [List.take_length] at hsp
      refine ⟨fcell ((hs _ (by have := hb.size; omega) (by omega)).trans ((hb.block _ (by omega)).trans hQ)) 0 _ rfl, fs', hd, hsp, ho.trans hb0.os, ht.trans hb0.tape, hou.trans hb0.output, Nat.le_trans hb0.size hsz, fun g hg => (hs g (Nat.lt_of_lt_of_le hg hb0.size) (by omega)).trans (hb0.block g hg)⟩)
  clear h hN
  go_enter Try.func31, Try.ntmps31
  go_wp2_with (first
    | (go_at_call 12; refine (unhide NW).mono ?_; rintro e W1 ⟨rfl, h1, b1⟩; have EE := hide (unhide EC W1 h1 b1 _ rfl); clear h1 b1)
    | (go_at_call 51; refine (unhide EE).mono ?_; rintro e W4 ⟨rfl, q0, hq⟩; have HQ := hide hq; clear hq))
  go_ret
  obtain ⟨fs', k1, k2, k3⟩ := unhide HQ
  exact ⟨_, _, fs', rfl, k1, k2, k3⟩
end
end Go.Proofs.Ytghdiemihceaoaa
end
