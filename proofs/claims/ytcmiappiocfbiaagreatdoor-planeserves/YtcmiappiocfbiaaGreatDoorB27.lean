/- What the bound of the second form gives of an argument's bytes. -/
import Derived.Test.YtcmiappiocfbiaaGreatDoorB05
import Derived.Test.YtcmiappiocfbiaaGreatDoorB12
import Derived.Deep.Slices
import Derived.OpenShut
import Derived.Lib.SmallJoins
import Derived.Test.YtcmiappiocfbiaaGreatDoorB21
import Derived.Test.YtcmiappiocfbiaaGreatDoorB13
import Derived.Test.YtcmiappiocfbiaaGreatDoorB19
import Derived.Test.YtcmiappiocfbiaaGreatDoorB20
import Derived.Test.YtcmiappiocfbiaaGreatDoorB26
section
namespace Go.Proofs.YtcmiappiocfbiaaGreatDoor
open Go.RowKit

end Go.Proofs.YtcmiappiocfbiaaGreatDoor
end
/- A head that came in. -/
section
namespace Go.Proofs.YtcmiappiocfbiaaGreatDoor
open Go.ChangeShapes Go.WideShapes Go.ChangeAt Go.RowKit
set_option linter.unusedVariables false

instance : Inhabited Fd := ⟨⟨[], []⟩⟩
/-- Bounds of fields. -/
def FdsLe (n : Nat) (l : List Fd) : Prop := l.length ≤ n ∧ ∀ f ∈ l, f.name.length ≤ n ∧ f.value.length ≤ n
/-- A head's value; its fields lie at 'sp'. -/
def hdVal (h : Hd) (sp : Option Addr) (c : Nat) : Value := .agg #[.string (stS h.method), .string (stS h.path), .string (stS h.query), .string (stS h.host), .slice sp h.fields.length c]
structure HdLe (n : Nat) (h : Hd) : Prop where
  m : h.method.length ≤ n
  p : h.path.length ≤ n
  q : h.query.length ≤ n
  x : h.host.length ≤ n
  f : FdsLe n h.fields
theorem HdLe.mono {n k : Nat} {h : Hd} (e : HdLe n h) (hk : n ≤ k) : HdLe k h :=
  ⟨Nat.le_trans e.m hk, Nat.le_trans e.p hk, Nat.le_trans e.q hk, Nat.le_trans e.x hk, Nat.le_trans e.f.1 hk, fun f hf => ⟨Nat.le_trans (e.f.2 f hf).1 hk, Nat.le_trans (e.f.2 f hf).2 hk⟩⟩
end Go.Proofs.YtcmiappiocfbiaaGreatDoor
end
/- Heads, in plain words: what is parsed. -/
section
namespace Go.Proofs.YtcmiappiocfbiaaGreatDoor
set_option linter.unusedVariables false

theorem low_token {l : Tx} (h : isTokenL l = true) : isTokenL (lowL l) = true := by
  obtain ⟨h1, h2⟩ := Bool.and_eq_true_iff.1 h
  refine Bool.and_eq_true_iff.2 ⟨?_, List.all_eq_true.2 fun c hc => ?_⟩
  · cases l with
    | nil => cases h1
    | cons x t => rfl
  · obtain ⟨d, hd, rfl⟩ := List.mem_map.1 hc
    have h3 := List.all_eq_true.1 h2 d hd
    have h4 := each8 (p := fun c => !isK 8 c || isK 8 (Lib.lowerB c)) (by decide +kernel) d
    rw [show isK 8 d = true from h3] at h4
    simpa using h4
theorem low_low (l : Tx) : lowL (lowL l) = lowL l := by
  unfold lowL Lib.toLowerA
  rw [List.map_map]
  refine List.map_congr_left fun c _ => ?_
  have h4 := each8 (p := fun c => Lib.lowerB (Lib.lowerB c) == Lib.lowerB c) (by decide +kernel) c
  exact eq_of_beq h4
theorem field_ok {line : Tx} {f : Fd} (h : fieldL line = some f) : fdOk f = true := by
  unfold fieldL at h
  split at h
  · rename_i hc
    cases h
    simp only [Bool.and_eq_true] at hc
    unfold fdOk
    simp only [low_token hc.1.2, hc.2, low_low, beq_self_eq_true, Bool.and_self]
  · cases h
theorem fields_ok : ∀ (n : Nat) (rest : Tx) (fs : List Fd), fieldsL n rest = some fs → fs.all fdOk = true ∧ ∀ f ∈ fs, f.name.length ≤ rest.length ∧ f.value.length ≤ rest.length
  | 0, rest, fs, h => by cases h; exact ⟨rfl, by simp⟩
  | n + 1, rest, fs, h => by
    unfold fieldsL at h
    split at h
    · cases h; exact ⟨rfl, by simp⟩
    · cases hf : fieldL (cutL crlf rest).1 with
      | none => rw [hf] at h; cases h
      | some f =>
        rw [hf] at h
        simp only at h
        cases hr : fieldsL n (behindL crlf rest) with
        | none => rw [hr] at h; cases h
        | some gs =>
          rw [hr] at h
          cases h
          obtain ⟨h1, h2⟩ := fields_ok n _ gs hr
          refine ⟨by rw [List.all_cons, field_ok hf, h1]; rfl, fun g hg => ?_⟩
          rcases List.mem_cons.1 hg with rfl | hg
          · have h3 := fieldL_len hf
            have h4 := cutL_len (sep := crlf) (l := rest)
            omega
          · have h3 := h2 g hg
            have h4 := behindL_len (sep := crlf) (l := rest)
            omega
theorem target_ok {t p q h : Tx} (ht : targetL t = some (p, q, h)) : isPathL p = true ∧ isQueryL q = true ∧ p.length ≤ t.length + 1 ∧ q.length ≤ t.length := by
  have hq : isQueryL (behindL [63] t) = true := by
    cases hq : isQueryL (behindL [63] t) with
    | true => rfl
    | false => rw [targetL_0 hq] at ht; cases ht
  have l1 := cutL_len (sep := [63]) (l := t)
  have l2 := behindL_len (sep := [63]) (l := t)
  cases hp : httpL.isPrefixOf (cutL [63] t).1 with
  | false =>
    rw [targetL_1 hq hp] at ht
    split at ht
    · rename_i h1
      cases ht
      exact ⟨h1, hq, by omega, l2⟩
    · cases ht
  | true =>
    rw [targetL_2 hq hp] at ht
    split at ht
    · cases ht
    · split at ht
      · rename_i h1
        cases ht
        refine ⟨h1, hq, ?_, l2⟩
        have l3 : ((cutL [63] t).1.drop 7).length ≤ (cutL [63] t).1.length := by simp
        unfold pathOf
        cases hc : (cutL [47] ((cutL [63] t).1.drop 7)).2 with
        | none => simp
        | some b =>
          have l4 := congrArg List.length (cutL_some hc)
          simp only [List.length_append, List.length_cons, List.length_nil] at l4
          simp only [List.length_cons]
          omega
      · cases ht
theorem request_ok {t m p q h : Tx} (ht : requestL t = some (m, p, q, h)) : isTokenL m = true ∧ isPathL p = true ∧ isQueryL q = true ∧ m.length ≤ t.length ∧ p.length ≤ t.length + 1 ∧ q.length ≤ t.length := by
  unfold requestL at ht
  split at ht
  · cases ht
  · rename_i p' q' h' hT
    split at ht
    · rename_i hc
      cases ht
      have h1 := target_ok hT
      have l1 := cutL_len (sep := [32]) (l := t)
      have l2 := behindL_len (sep := [32]) (l := t)
      have l3 := cutL_len (sep := [32]) (l := behindL [32] t)
      exact ⟨(Bool.and_eq_true_iff.1 hc).1, h1.1, h1.2.1, l1, by omega, by omega⟩
    · cases ht
structure Rd (t : Tx) (h : Hd) : Prop where
  m : isTokenL h.method = true
  p : isPathL h.path = true
  q : isQueryL h.query = true
  f : h.fields.all fdOk = true
  x : ∃ x, hostOfL h.fields = some x
  le : h.method.length ≤ t.length ∧ h.path.length ≤ t.length + 1 ∧ h.query.length ≤ t.length ∧ h.host.length ≤ 64
  fl : ∀ f ∈ h.fields, f.name.length ≤ t.length ∧ f.value.length ≤ t.length
theorem hostOf_len {l : List Fd} {x : Tx} (h : hostOfL l = some x) : x.length ≤ 64 := by
  unfold hostOfL at h
  split at h
  · exact hostL_len h
  · cases h
theorem read_ok {t : Tx} {h : Hd} (hr : readL t = some h) : Rd t h := by
  unfold readL at hr
  split at hr
  · cases hr
  · rename_i m p q ht hq
    split at hr
    · cases hr
    · rename_i fs hf
      split at hr
      · cases hr
      · rename_i x hx
        cases hr
        have h1 := request_ok hq
        have h2 := fields_ok _ _ _ hf
        have l1 := cutL_len (sep := crlf) (l := t)
        have l2 := behindL_len (sep := crlf) (l := t)
        refine ⟨h1.1, h1.2.1, h1.2.2.1, h2.1, ⟨x, hx⟩, ⟨by simp only; omega, by simp only; omega, by simp only; omega, ?_⟩, fun f hf => ?_⟩
        · simp only
          split
          · exact hostOf_len hx
          · exact requestL_len hq
        · have := h2.2 f hf
          omega
theorem parse_ok {b : Tx} {h : Hd} {k : Nat} (hp : parseL b = .ok h k) : 4 ≤ k ∧ k ≤ b.length ∧ k ≤ 2048 ∧ h.fields.length ≤ 32 ∧ Rd (b.take 2048) h := by
  unfold parseL at hp
  split at hp
  · split at hp <;> cases hp
  · rename_i d hd
    split at hp
    · cases hp
    · rename_i g hg
      split at hp
      · cases hp
      · rename_i hf
        cases hp
        have l1 := congrArg List.length (cutL_some hd)
        simp only [List.length_append, List.length_take, crlf, List.length_cons, List.length_nil] at l1
        have hr := read_ok hg
        refine ⟨by omega, by simp only [crlf] at l1 ⊢; omega, by simp only [crlf] at l1 ⊢; omega, by omega, ⟨hr.m, hr.p, hr.q, hr.f, hr.x, ?_, fun f hf => ?_⟩⟩
        · have := hr.le
          simp only [List.length_append, List.length_take, crlf, List.length_cons, List.length_nil] at this l1 ⊢
          omega
        · have := hr.fl f hf
          simp only [List.length_append, List.length_take, crlf, List.length_cons, List.length_nil] at this l1 ⊢
          omega
theorem parse_le {b : Tx} {h : Hd} {k : Nat} (hp : parseL b = .ok h k) : HdLe 4096 h := by
  obtain ⟨_, _, _, h4, hr⟩ := parse_ok hp
  have h1 := hr.le
  simp only [List.length_take] at h1
  refine ⟨by omega, by omega, by omega, by omega, by omega, fun f hf => ?_⟩
  have h2 := hr.fl f hf
  simp only [List.length_take] at h2
  omega
theorem parse_bad_is {b : Tx} {n : Nat} (hp : parseL b = .bad n) : n = 3 ∨ n = 6 ∨ n = 4 := by
  unfold parseL at hp
  split at hp
  · split at hp
    · cases hp; exact .inl rfl
    · cases hp; exact .inr (.inl rfl)
  · split at hp
    · cases hp; exact .inr (.inr rfl)
    · split at hp
      · cases hp; exact .inr (.inl rfl)
      · cases hp
/-- What is parsed may be written, or has another host than its field. -/
theorem again_bad {b : Tx} {h : Hd} {k n : Nat} (hp : parseL b = .ok h k) (hw : writeL h = .bad n) : n = 6 ∨ (n = 4 ∧ ∃ x, hostOfL h.fields = some x ∧ ¬ x = h.host) := by
  obtain ⟨_, _, _, h4, hr⟩ := parse_ok hp
  unfold writeL at hw
  split at hw
  · split at hw
    · cases hw; exact .inl rfl
    · split at hw
      · cases hw; exact .inl rfl
      · cases hw
  · rename_i hm
    cases hw
    refine .inr ⟨rfl, ?_⟩
    obtain ⟨x, hx⟩ := hr.x
    refine ⟨x, hx, fun e => hm ?_⟩
    unfold mayBeL
    rw [hr.m, hr.p, hr.q, hr.f, hx, e]
    simp
end Go.Proofs.YtcmiappiocfbiaaGreatDoor
end
/- Plane: the document's Serve. -/
section
namespace Go.Proofs.YtcmiappiocfbiaaGreatDoor
open Go.ChangeShapes Go.WideShapes Go.ChangeAt Go.RowKit
set_option linter.unusedVariables false

theorem set4 {w : World} {g : Nat} {a b c d x y z u : Value} {T : TypeId} (h : w.heap[g]? = some (.cells #[a, b, c, d] T (0, 0))) : ((((w.setCell ⟨g, 0, none⟩ x).setCell ⟨g, 1, none⟩ y).setCell ⟨g, 2, none⟩ z).setCell ⟨g, 3, none⟩ u).heap[g]? = some (.cells #[x, y, z, u] T (0, 0)) ∧ w.grownBy ((((w.setCell ⟨g, 0, none⟩ x).setCell ⟨g, 1, none⟩ y).setCell ⟨g, 2, none⟩ z).setCell ⟨g, 3, none⟩ u) (some g) := by
  have h1 := heap_setCell_same w g 0 #[a, b, c, d] T x h
  have h2 := heap_setCell_same _ g 1 _ T y h1
  have h3 := heap_setCell_same _ g 2 _ T z h2
  have h4 := heap_setCell_same _ g 3 _ T u h3
  exact ⟨h4, (((grown_set0 w g 0 x).trans (grown_set0 _ g 1 y)).trans (grown_set0 _ g 2 z)).trans (grown_set0 _ g 3 u)⟩
/-- The box of a configuration, and the answer's block. -/
structure RsAt (w : World) (e : Cf) (h : CfH) (W : World) : Prop where
  r0 : W.heap[w.heap.size]? = some (.cells #[.int .i64 e.ver, .slice h.ra e.rs.length h.rc, .slice h.pa e.ps.length h.pc] 28 (0, 0))
  r1 : W.heap[w.heap.size + 1]? = some (.cells #[.int .i64 0, .int .i64 0, .string ⟨#[]⟩, .string ⟨#[]⟩] 43 (0, 0))
  bel : Below w.heap.size w W
section
variable {w W W' : World} {e : Cf} {h : CfH}
theorem RsAt.later (z : RsAt w e h W) (u : Below W.heap.size W W') : RsAt w e h W' := ⟨later_block u z.r0, later_block u z.r1, z.bel.trans (u.mono z.bel.size)⟩
theorem RsAt.cells (z : RsAt w e h W) : (W.cell? ⟨w.heap.size, 0, none⟩ = some (.int .i64 e.ver) ∧ W.cell? ⟨w.heap.size, 1, none⟩ = some (.slice h.ra e.rs.length h.rc) ∧ W.cell? ⟨w.heap.size, 2, none⟩ = some (.slice h.pa e.ps.length h.pc)) ∧
    (W.cell? ⟨w.heap.size + 1, 0, none⟩ = some (.int .i64 0) ∧ W.cell? ⟨w.heap.size + 1, 1, none⟩ = some (.int .i64 0) ∧ W.cell? ⟨w.heap.size + 1, 2, none⟩ = some (.string ⟨#[]⟩) ∧ W.cell? ⟨w.heap.size + 1, 3, none⟩ = some (.string ⟨#[]⟩)) ∧
    (W.frozen? ⟨w.heap.size + 1, 0, none⟩ = false ∧ W.frozen? ⟨w.heap.size + 1, 1, none⟩ = false ∧ W.frozen? ⟨w.heap.size + 1, 2, none⟩ = false ∧ W.frozen? ⟨w.heap.size + 1, 3, none⟩ = false) :=
  ⟨⟨box_cell z.r0 0 _ rfl, box_cell z.r0 1 _ rfl, box_cell z.r0 2 _ rfl⟩, ⟨box_cell z.r1 0 _ rfl, box_cell z.r1 1 _ rfl, box_cell z.r1 2 _ rfl, box_cell z.r1 3 _ rfl⟩, by simp [World.frozen?, z.r1], by simp [World.frozen?, z.r1], by simp [World.frozen?, z.r1], by simp [World.frozen?, z.r1]⟩
end
theorem rs_first (w : World) (e : Cf) (h : CfH) : RsAt w e h ((w.alloc (.cells #[.int .i64 e.ver, .slice h.ra e.rs.length h.rc, .slice h.pa e.ps.length h.pc] 28)).alloc (.cells #[.int .i64 0, .int .i64 0, .string ⟨#[]⟩, .string ⟨#[]⟩] 43)) := by
  have b1 : Below w.heap.size w (w.alloc (.cells #[.int .i64 e.ver, .slice h.ra e.rs.length h.rc, .slice h.pa e.ps.length h.pc] 28)) := (Below.refl _ _).alloc (Nat.le_refl _) _
  have X1 := heap_new w (.cells #[.int .i64 e.ver, .slice h.ra e.rs.length h.rc, .slice h.pa e.ps.length h.pc] 28)
  have s1 : (w.alloc (.cells #[.int .i64 e.ver, .slice h.ra e.rs.length h.rc, .slice h.pa e.ps.length h.pc] 28)).heap.size = w.heap.size + 1 := by simp
  generalize w.alloc (.cells #[.int .i64 e.ver, .slice h.ra e.rs.length h.rc, .slice h.pa e.ps.length h.pc] 28) = W1 at *
  have b2 : Below W1.heap.size W1 (W1.alloc (.cells #[.int .i64 0, .int .i64 0, .string ⟨#[]⟩, .string ⟨#[]⟩] 43)) := (Below.refl _ _).alloc (Nat.le_refl _) _
  have X2 := heap_new W1 (.cells #[.int .i64 0, .int .i64 0, .string ⟨#[]⟩, .string ⟨#[]⟩] 43)
  rw [s1] at X2
  exact ⟨later_block b2 X1, X2, b1.trans (b2.mono b1.size)⟩
set_option maxRecDepth 20000 in
set_option maxHeartbeats 16000000 in
theorem rserve_calls {w : World} {e : Cf} {h : CfH} (hc : CfAt w e h) (ht : ∀ y ∈ e.ps, y.ts.length ≤ 1000) (a : Option Addr) (bc d : Nat) (l : List Nat) (hb : BytesAt w a l) (hbl : l.length ≤ bc) (hl : l.length ≤ 5000) (hd : d < 18446744073709551616) :
    Calls Tryz.prog 11 #[cfVal e h, .slice a l.length bc, .float .f64 d] w fun r w' => r = .returned (.agg #[.int .i64 (serveL l e.rs e.ps d).1, .int .i64 e.ver, .string (serveL l e.rs e.ps d).2.1, .string (serveL l e.rs e.ps d).2.2]) ∧ Below w.heap.size w w' := by
  have Z := hide (rs_first w e h)
  have PC := hide (fun (W : World) (z : RsAt w e h W) => parseR_calls a l.length bc l W rfl hbl (by omega) (hb.later z.bel))
  have SD := hide (show serveL l e.rs e.ps d = match parseL (txN l) with
    | .bad _ => (400, ⟨#[]⟩, ⟨#[]⟩)
    | .ok h _ => match bestN (stS h.host) (stS h.path) e.rs e.rs.length with
      | none => (404, ⟨#[]⟩, ⟨#[]⟩)
      | some b => match addrN (e.rs.getD b rt0).l e.ps d with
        | none => (503, (e.rs.getD b rt0).l, ⟨#[]⟩)
        | some y => (200, (e.rs.getD b rt0).l, y) from rfl)
  have RT := hide hc.rts
  have PS := hide hc.pos
  have hrl := hc.rl.1
  have hpl := hc.pl.1
  have HT := hide ht
  have HD := hide hd
  have wv := hc.wv
  unfold cfVal
  clear hc ht hb hd
  go_enter Tryz.func11, Tryz.ntmps11
  go_wp2_with fail
  generalize (w.alloc _).alloc _ = W2 at *
  go_at_call 21
  refine (unhide PC _ (unhide Z)).mono ?_
  rintro r V1 ⟨pr, v1⟩
  have Z := hide ((unhide Z).later v1)
  clear v1 PC
  unfold ParseRes at pr
  cases hp : parseL (txN l) with
  | bad n =>
    rw [hp] at pr SD
    dsimp only at pr SD
    subst pr
    have hn := parse_bad_is hp
    have hn0 : ¬ (n : Int) = 0 := by omega
    have hn1 : ((n : Int) == 0) = false := by simp; omega
    clear hp hn
    have Z := hide ((unhide Z).later ((Below.refl V1.heap.size V1).alloc (Nat.le_refl _) (.cells #[.string ⟨#[]⟩, .string ⟨#[]⟩, .string ⟨#[]⟩, .string ⟨#[]⟩, .slice none 0 0] 58)))
    obtain ⟨a1, a2⟩ := set4 (x := .int .i64 400) (y := .int .i64 e.ver) (z := .string ⟨#[]⟩) (u := .string ⟨#[]⟩) (unhide Z).r1
    have A1 := hide a1
    have A2 := hide a2
    clear a1 a2
    obtain ⟨⟨c0, c1, c2⟩, ⟨z0, z1, z2, z3⟩, ⟨f0, f1, f2, f3⟩⟩ := (unhide Z).cells
    go_wp2_with fail
    clear c0 c1 c2 z0 z1 z2 z3 f0 f1 f2 f3
    generalize ((((World.setCell _ ⟨w.heap.size + 1, 0, none⟩ (.int .i64 400)).setCell ⟨w.heap.size + 1, 1, none⟩ (.int .i64 e.ver)).setCell ⟨w.heap.size + 1, 2, none⟩ (.string ⟨#[]⟩)).setCell ⟨w.heap.size + 1, 3, none⟩ (.string ⟨#[]⟩)) = W9 at *
    have g0 := fcell0 (unhide A1) 0 _ rfl
    have g1 := fcell0 (unhide A1) 1 _ rfl
    have g2 := fcell0 (unhide A1) 2 _ rfl
    have g3 := fcell0 (unhide A1) 3 _ rfl
    have VB := (unhide Z).bel.grown (unhide A2) (unhide Z).bel.size (fun g e => by have := Option.some.inj e; omega)
    refine bodyPost_ret (v := .agg #[.int .i64 400, .int .i64 e.ver, .string ⟨#[]⟩, .string ⟨#[]⟩]) (by simp [results, Tryz.results11, go_sem, g0, g1, g2, g3]) rfl ⟨?_, VB⟩
    rw [unhide SD]
  | ok hd k =>
    rw [hp] at pr SD
    dsimp only at pr SD
    obtain ⟨sp, fc, rfl, _⟩ := pr
    have hpz : (stS hd.path).size ≤ maxLen := by
      have := (parse_le hp).p
      rw [stS_size]
      simp only [maxLen]
      omega
    clear hp
    have FC := hide (fun (W : World) (z : RsAt w e h W) => rfind_calls ((unhide RT).later z.bel) e.rs.length h.rc rfl hrl e.ver h.pa e.ps.length h.pc (stS hd.host) (stS hd.path) hpz)
    have XH := hide (heap_new V1 (.cells #[.string (stS hd.method), .string (stS hd.path), .string (stS hd.query), .string (stS hd.host), .slice sp hd.fields.length fc] 58))
    have Z := hide ((unhide Z).later ((Below.refl V1.heap.size V1).alloc (Nat.le_refl _) (.cells #[.string (stS hd.method), .string (stS hd.path), .string (stS hd.query), .string (stS hd.host), .slice sp hd.fields.length fc] 58)))
    have x1 := box_cell (unhide XH) 1 _ rfl
    have x3 := box_cell (unhide XH) 3 _ rfl
    obtain ⟨⟨c0, c1, c2⟩, ⟨z0, z1, z2, z3⟩, ⟨f0, f1, f2, f3⟩⟩ := (unhide Z).cells
    go_wp2_with fail
    clear c0 c1 c2 z0 z1 z2 z3 f0 f1 f2 f3
    clear x1 x3 XH hpz
    generalize V1.alloc _ = V2 at *
    go_at_call 22
    refine (unhide FC _ (unhide Z)).mono ?_
    rintro r V3 ⟨rfl, v3⟩
    have Z := hide ((unhide Z).later v3)
    clear v3 FC
    cases hbn : bestN (stS hd.host) (stS hd.path) e.rs e.rs.length with
    | none =>
      rw [hbn] at SD
      dsimp only at SD
      rw [show findV e.rs none = .tuple #[.agg #[.string ⟨#[]⟩, .string ⟨#[]⟩, .string ⟨#[]⟩], .bool false] from rfl]
      clear hbn
      have Z := hide ((unhide Z).later ((Below.refl V3.heap.size V3).alloc (Nat.le_refl _) (.cells #[.string ⟨#[]⟩, .string ⟨#[]⟩, .string ⟨#[]⟩] 65)))
      obtain ⟨a1, a2⟩ := set4 (x := .int .i64 404) (y := .int .i64 e.ver) (z := .string ⟨#[]⟩) (u := .string ⟨#[]⟩) (unhide Z).r1
      have A1 := hide a1
      have A2 := hide a2
      clear a1 a2
      obtain ⟨⟨c0, c1, c2⟩, ⟨z0, z1, z2, z3⟩, ⟨f0, f1, f2, f3⟩⟩ := (unhide Z).cells
      go_wp2_with fail
      clear c0 c1 c2 z0 z1 z2 z3 f0 f1 f2 f3
      generalize ((((World.setCell _ ⟨w.heap.size + 1, 0, none⟩ (.int .i64 404)).setCell ⟨w.heap.size + 1, 1, none⟩ (.int .i64 e.ver)).setCell ⟨w.heap.size + 1, 2, none⟩ (.string ⟨#[]⟩)).setCell ⟨w.heap.size + 1, 3, none⟩ (.string ⟨#[]⟩)) = W9 at *
      have g0 := fcell0 (unhide A1) 0 _ rfl
      have g1 := fcell0 (unhide A1) 1 _ rfl
      have g2 := fcell0 (unhide A1) 2 _ rfl
      have g3 := fcell0 (unhide A1) 3 _ rfl
      have VB := (unhide Z).bel.grown (unhide A2) (unhide Z).bel.size (fun g e => by have := Option.some.inj e; omega)
      refine bodyPost_ret (v := .agg #[.int .i64 404, .int .i64 e.ver, .string ⟨#[]⟩, .string ⟨#[]⟩]) (by simp [results, Tryz.results11, go_sem, g0, g1, g2, g3]) rfl ⟨?_, VB⟩
      rw [unhide SD]
    | some b =>
      rw [hbn] at SD
      dsimp only at SD
      obtain ⟨⟨rh, rp, pool⟩, hrt⟩ : ∃ r, r = e.rs.getD b rt0 := ⟨_, rfl⟩
      have hps : pool.size ≤ maxLen := by
        have hlt := bestN_lt _ _ _ _ _ hbn
        rw [rt_at _ _ hlt] at hrt
        have := ((unhide RT).sz _ (List.getElem_mem hlt)).2.2
        rw [← hrt] at this
        exact this
      rw [show findV e.rs (some b) = .tuple #[rtVal (e.rs.getD b rt0), .bool true] from rfl, ← hrt]
      rw [← hrt] at SD
      dsimp only [rtVal] at SD ⊢
      clear hbn hrt
      have XR := hide (heap_new V3 (.cells #[.string rh, .string rp, .string pool] 65))
      have Z := hide ((unhide Z).later ((Below.refl V3.heap.size V3).alloc (Nat.le_refl _) (.cells #[.string rh, .string rp, .string pool] 65)))
      go_wp2_with fail
      generalize V3.alloc _ = V4 at *
      generalize V3.heap.size = R at *
      simp only [maxLen] at hps hpl
      go_loopw [12] (fun i wr => ∃ j : Nat, j ≤ e.ps.length ∧ i = .int .i64 (j : Int) ∧ Hid (∀ q (hq : q < j) (hq' : q < e.ps.length), (e.ps[q].nm.toList == pool.toList) = false) ∧ Hid (Below V4.heap.size V4 wr)) (fun i _ => e.ps.length - (intOf i).toNat)
      case atStart => exact ⟨0, by omega, rfl, fun q hq => by omega, Below.refl _ _⟩
      case round =>
        obtain ⟨j, hj, rfl, hdone, B⟩ := hrel
        have Z := hide ((unhide Z).later (unhide B))
        have XR := hide (later_block (unhide B) (unhide XR))
        have x2 := box_cell (unhide XR) 2 _ rfl
        by_cases hjn : j < e.ps.length
        · have y1 : (0 : Int) ≤ (j : Int) := by omega
          have y2 : (j : Int) < (e.ps.length : Int) := by omega
          obtain ⟨gb, off, ta, tc, hpa, q0, q1, T, hlen, _⟩ := (unhide PS).cell j hjn
          have p0 := cell_later (unhide Z).bel q0
          have p1 := cell_later (unhide Z).bel q1
          have BD := hide (show ∀ k, Below V4.heap.size V4 (wr.drewN k) from fun k => ⟨(unhide B).os, (unhide B).tape, (unhide B).output, (unhide B).size, (unhide B).block⟩)
          have ZD := hide (show ∀ k, RsAt w e h (wr.drewN k) from fun k => ⟨(unhide Z).r0, (unhide Z).r1, ⟨(unhide Z).bel.os, (unhide Z).bel.tape, (unhide Z).bel.output, (unhide Z).bel.size, (unhide Z).bel.block⟩⟩)
          have XD := hide (show ∀ k, (wr.drewN k).heap[R]? = some (.cells #[.string rh, .string rp, .string pool] 65 (0, 0)) from fun k => unhide XR)
          have PD := hide (show ∀ k, (wr.drewN k).cell? ⟨gb, off + j * 2 + 1, none⟩ = some (.slice ta e.ps[j].ts.length tc) from fun k => p1)
          obtain ⟨c0, c1, c2⟩ := (unhide Z).cells.1
          rw [hpa] at c2
          cases hnm : (e.ps[j].nm.toList == pool.toList) with
          | false =>
            have HN := hide (show ∀ q (hq : q < j + 1) (hq' : q < e.ps.length), (e.ps[q].nm.toList == pool.toList) = false from fun q hq hq' => by
              by_cases e : q = j
              · subst e; exact hnm
              · exact unhide hdone q (by omega) hq')
            clear hlen q0 q1 T p1
            generalize e.ps[j].nm = nm at *
            go_wp2_with fail
            go_quiet (fail)
            go_wp2
            exact ⟨⟨j + 1, by omega, by go_num, unhide HN, unhide BD _⟩, by simp [intOf]; omega⟩
          | true =>
            have HI := hide (show poolN pool e.ps = some j from by
              unfold poolN
              rw [List.findIdx?_eq_some_iff_getElem]
              exact ⟨hjn, hnm, fun q hq => by rw [unhide hdone q hq (by omega)]; decide⟩)
            have WC := hide (fun (W : World) (hb : Below w.heap.size w W) => rweigh_calls (T.later hb) e.ps[j].ts.length tc rfl (unhide HT _ (List.getElem_mem hjn)) d (unhide HD))
            have hl1 := unhide HT _ (List.getElem_mem hjn)
            have AD := hide (show addrN pool e.ps d = match weighN e.ps[j].ts d with
              | none => none
              | some k => some (e.ps[j].ts.getD k (⟨#[]⟩, 0)).1 by
              unfold addrN
              rw [unhide HI]
              dsimp only
              rw [po_at _ _ hjn]
              cases weighN e.ps[j].ts d <;> rfl)
            have PT := hide (show ∀ W, Below w.heap.size w W → TgsAt W ta e.ps[j].ts from fun W u => T.later u)
            have WL := hide (fun k (hk : weighN e.ps[j].ts d = some k) => weigh_lt _ _ _ hk)
            have QQ := hide q1
            clear hlen q0 q1 T p1 HI hdone
            generalize e.ps[j].nm = nm at *
            generalize e.ps[j].ts = ts at *
            go_wp2_with fail
            go_quiet (fail)
            clear p0 c0 c1 c2 x2
            rename_i nq
            have Z := hide (unhide ZD nq)
            have XR := hide (unhide XD nq)
            have p1 := unhide PD nq
            obtain ⟨c0, c1, c2⟩ := (unhide Z).cells.1
            rw [hpa] at c2
            go_wp2_with fail
            clear c0 c1 c2 p1
            go_at_call 23
            refine (unhide WC _ (unhide Z).bel).mono ?_
            rintro r V5 ⟨rfl, v5⟩
            have p1 := cell_later v5 (unhide PD nq)
            have Z := hide ((unhide Z).later v5)
            have XR := hide (later_block v5 (unhide XR))
            have x2 := box_cell (unhide XR) 2 _ rfl
            clear v5 WC
            cases hw : weighN ts d with
            | none =>
              rw [hw] at AD
              dsimp only at AD
              rw [unhide AD] at SD
              dsimp only at SD
              rw [show firstV none = .tuple #[.int .i64 0, .bool false] from rfl]
              clear p1 hw
              obtain ⟨a1, a2⟩ := set4 (x := .int .i64 503) (y := .int .i64 e.ver) (z := .string pool) (u := .string ⟨#[]⟩) (unhide Z).r1
              have A1 := hide a1
              have A2 := hide a2
              clear a1 a2
              obtain ⟨⟨c0, c1, c2⟩, ⟨z0, z1, z2, z3⟩, ⟨f0, f1, f2, f3⟩⟩ := (unhide Z).cells
              go_wp2_with fail
              clear c0 c1 c2 z0 z1 z2 z3 f0 f1 f2 f3
              generalize ((((World.setCell _ ⟨w.heap.size + 1, 0, none⟩ (.int .i64 503)).setCell ⟨w.heap.size + 1, 1, none⟩ (.int .i64 e.ver)).setCell ⟨w.heap.size + 1, 2, none⟩ (.string pool)).setCell ⟨w.heap.size + 1, 3, none⟩ (.string ⟨#[]⟩)) = W9 at *
              have g0 := fcell0 (unhide A1) 0 _ rfl
              have g1 := fcell0 (unhide A1) 1 _ rfl
              have g2 := fcell0 (unhide A1) 2 _ rfl
              have g3 := fcell0 (unhide A1) 3 _ rfl
              have VB := (unhide Z).bel.grown (unhide A2) (unhide Z).bel.size (fun g e => by have := Option.some.inj e; omega)
              refine bodyPost_ret (v := .agg #[.int .i64 503, .int .i64 e.ver, .string pool, .string ⟨#[]⟩]) (by simp [results, Tryz.results11, go_sem, g0, g1, g2, g3]) rfl ⟨?_, VB⟩
              rw [unhide SD]
            | some k =>
              rw [hw] at AD
              dsimp only at AD
              rw [unhide AD] at SD
              dsimp only at SD
              have hk := unhide WL k hw
              rw [show firstV (some k) = .tuple #[.int .i64 (k : Int), .bool true] from rfl]
              obtain ⟨tb, tof, hta, t0w, _⟩ := (unhide PT w (Below.refl _ _)).cell k hk
              have t0 := cell_later (unhide Z).bel t0w
              have tlt := World.block_lt_of_cell? _ _ t0w
              simp only at tlt
              subst hta
              have hgd : (ts.getD k (⟨#[]⟩, 0)).1 = ts[k].1 := by rw [List.getD_eq_getElem?_getD, List.getElem?_eq_getElem hk, Option.getD_some]
              rw [hgd] at SD
              have n0 : w.heap.size ≠ w.heap.size + 1 := by omega
              have n1 : R ≠ w.heap.size + 1 := by
                rintro rfl
                have e1 := (unhide Z).r1
                rw [unhide XR] at e1
                simp at e1
              have n2 : gb ≠ w.heap.size + 1 := by
                rintro rfl
                have e1 := box_cell (unhide Z).r1 (off + j * 2 + 1)
                rw [p1] at e1
                have e2 := World.block_lt_of_cell? _ _ (unhide QQ)
                simp only at e2
                omega
              have n3 : tb ≠ w.heap.size + 1 := by omega
              clear t0w tlt
              generalize ts[k].1 = ad at *
              have hk0 : (0 : Int) ≤ (k : Int) := by omega
              have hk1 : (k : Int) < (ts.length : Int) := by omega
              obtain ⟨⟨c0, c1, c2⟩, ⟨z0, z1, z2, z3⟩, ⟨f0, f1, f2, f3⟩⟩ := (unhide Z).cells
              rw [hpa] at c2
              obtain ⟨a1, a2⟩ := set4 (x := .int .i64 200) (y := .int .i64 e.ver) (z := .string pool) (u := .string ad) (unhide Z).r1
              have A1 := hide (show ((((V5.setCell ⟨w.heap.size + 1, 0, none⟩ (.int .i64 200)).setCell ⟨w.heap.size + 1, 1, none⟩ (.int .i64 e.ver)).setCell ⟨w.heap.size + 1, 2, none⟩ (.string pool)).setCell ⟨w.heap.size + 1, 3, none⟩ (.string ad)).drew.heap[w.heap.size + 1]? = some (.cells #[.int .i64 200, .int .i64 e.ver, .string pool, .string ad] 43 (0, 0)) from a1)
              have A2 := hide (show Below w.heap.size w ((((V5.setCell ⟨w.heap.size + 1, 0, none⟩ (.int .i64 200)).setCell ⟨w.heap.size + 1, 1, none⟩ (.int .i64 e.ver)).setCell ⟨w.heap.size + 1, 2, none⟩ (.string pool)).setCell ⟨w.heap.size + 1, 3, none⟩ (.string ad)).drew from (((((unhide Z).bel.setCell (by simp) _).setCell (by simp) _).setCell (by simp) _).setCell (by simp) _).drew)
              clear a1 a2 hw hgd
              have SK := hide (show ∀ W : World, W.heap = V5.heap → (W.cell? ⟨w.heap.size, 0, none⟩ = some (.int .i64 e.ver) ∧ W.cell? ⟨R, 2, none⟩ = some (.string pool) ∧ W.cell? ⟨w.heap.size, 2, none⟩ = some (.slice (some ⟨gb, off, none⟩) e.ps.length h.pc) ∧ W.cell? ⟨gb, off + j * 2 + 1, none⟩ = some (.slice (some ⟨tb, tof, none⟩) ts.length tc) ∧ W.cell? ⟨tb, tof + k * 2, none⟩ = some (.string ad)) ∧ ((((W.setCell ⟨w.heap.size + 1, 0, none⟩ (.int .i64 200)).setCell ⟨w.heap.size + 1, 1, none⟩ (.int .i64 e.ver)).setCell ⟨w.heap.size + 1, 2, none⟩ (.string pool)).setCell ⟨w.heap.size + 1, 3, none⟩ (.string ad)).cell? ⟨w.heap.size, 0, none⟩ = some (.int .i64 e.ver) ∧ ((((W.setCell ⟨w.heap.size + 1, 0, none⟩ (.int .i64 200)).setCell ⟨w.heap.size + 1, 1, none⟩ (.int .i64 e.ver)).setCell ⟨w.heap.size + 1, 2, none⟩ (.string pool)).setCell ⟨w.heap.size + 1, 3, none⟩ (.string ad)).cell? ⟨R, 2, none⟩ = some (.string pool) ∧ ((((W.setCell ⟨w.heap.size + 1, 0, none⟩ (.int .i64 200)).setCell ⟨w.heap.size + 1, 1, none⟩ (.int .i64 e.ver)).setCell ⟨w.heap.size + 1, 2, none⟩ (.string pool)).setCell ⟨w.heap.size + 1, 3, none⟩ (.string ad)).cell? ⟨w.heap.size, 2, none⟩ = some (.slice (some ⟨gb, off, none⟩) e.ps.length h.pc) ∧ ((((W.setCell ⟨w.heap.size + 1, 0, none⟩ (.int .i64 200)).setCell ⟨w.heap.size + 1, 1, none⟩ (.int .i64 e.ver)).setCell ⟨w.heap.size + 1, 2, none⟩ (.string pool)).setCell ⟨w.heap.size + 1, 3, none⟩ (.string ad)).cell? ⟨gb, off + j * 2 + 1, none⟩ = some (.slice (some ⟨tb, tof, none⟩) ts.length tc) ∧ ((((W.setCell ⟨w.heap.size + 1, 0, none⟩ (.int .i64 200)).setCell ⟨w.heap.size + 1, 1, none⟩ (.int .i64 e.ver)).setCell ⟨w.heap.size + 1, 2, none⟩ (.string pool)).setCell ⟨w.heap.size + 1, 3, none⟩ (.string ad)).cell? ⟨tb, tof + k * 2, none⟩ = some (.string ad) from fun W hW => by
                have ck : ∀ p, W.cell? p = V5.cell? p := fun p => World.cell?_of_block (by rw [hW])
                rw [cell_aside _ _ n0, cell_aside _ _ n0, cell_aside _ _ n0, cell_aside _ _ n0, cell_aside _ _ n0, cell_aside _ _ n0, cell_aside _ _ n0, cell_aside _ _ n0, cell_aside _ _ n1, cell_aside _ _ n1, cell_aside _ _ n1, cell_aside _ _ n1, cell_aside _ _ n2, cell_aside _ _ n2, cell_aside _ _ n2, cell_aside _ _ n2, cell_aside _ _ n3, cell_aside _ _ n3, cell_aside _ _ n3, cell_aside _ _ n3, ck, ck, ck, ck, ck]
                exact ⟨⟨c0, x2, c2, p1, t0⟩, c0, x2, c2, p1, t0⟩)
              clear n1 n2 n3
              go_wp2_with fail
              refine wp_region_held_drew (S := fun w' => w'.cell? ⟨w.heap.size, 0, none⟩ = some (.int .i64 e.ver) ∧ w'.cell? ⟨R, 2, none⟩ = some (.string pool) ∧ w'.cell? ⟨w.heap.size, 2, none⟩ = some (.slice (some ⟨gb, off, none⟩) e.ps.length h.pc) ∧ w'.cell? ⟨gb, off + j * 2 + 1, none⟩ = some (.slice (some ⟨tb, tof, none⟩) ts.length tc) ∧ w'.cell? ⟨tb, tof + k * 2, none⟩ = some (.string ad)) (by kernel_rfl) ?_ (fun hHeld => ?_)
              · try dsimp only
                first | exact (unhide SK _ rfl).1 | exact (unhide SK _ rfl).2
              refine held_take 0 (oi := { dst := some 69, op := Op.fieldAddr 28 (Operand.tmp 3) 0, type := 0, pos := "ref.go:103", after := #[], guard := none }) (v := ?_) (by kernel_rfl) rfl (by rfl) (by kernel_rfl) (by kernel_rfl) (fun _ _ _ h => h) ?_ (by assumption) ?_
              rotate_left
              · (intro w hSw; (try dsimp only at hSw); go_simp; try with_reducible rfl)
              try simp only [Act.put, List.setIfInBounds_toArray, List.set_cons_zero, List.set_cons_succ]
              refine held_take 1 (oi := { dst := some 70, op := Op.load 3 (Operand.tmp 69), type := 3, pos := "ref.go:103", after := #[{ on := 0, ground := Ground.data }], guard := none }) (v := ?_) (by kernel_rfl) rfl (by rfl) (by kernel_rfl) (by kernel_rfl) (fun _ _ _ h => h) ?_ (by assumption) ?_
              rotate_left
              · (intro w hSw; (try dsimp only at hSw); go_simp; try with_reducible rfl)
              try simp only [Act.put, List.setIfInBounds_toArray, List.set_cons_zero, List.set_cons_succ]
              refine held_take 2 (oi := { dst := some 71, op := Op.fieldAddr 65 (Operand.tmp 10) 2, type := 0, pos := "ref.go:103", after := #[], guard := none }) (v := ?_) (by kernel_rfl) rfl (by rfl) (by kernel_rfl) (by kernel_rfl) (fun _ _ _ h => h) ?_ (by assumption) ?_
              rotate_left
              · (intro w hSw; (try dsimp only at hSw); go_simp; try with_reducible rfl)
              try simp only [Act.put, List.setIfInBounds_toArray, List.set_cons_zero, List.set_cons_succ]
              refine held_take 3 (oi := { dst := some 72, op := Op.load 9 (Operand.tmp 71), type := 9, pos := "ref.go:103", after := #[{ on := 2, ground := Ground.data }], guard := none }) (v := ?_) (by kernel_rfl) rfl (by rfl) (by kernel_rfl) (by kernel_rfl) (fun _ _ _ h => h) ?_ (by assumption) ?_
              rotate_left
              · (intro w hSw; (try dsimp only at hSw); go_simp; try with_reducible rfl)
              try simp only [Act.put, List.setIfInBounds_toArray, List.set_cons_zero, List.set_cons_succ]
              refine held_take 4 (oi := { dst := some 73, op := Op.fieldAddr 28 (Operand.tmp 3) 2, type := 0, pos := "ref.go:103", after := #[], guard := none }) (v := ?_) (by kernel_rfl) rfl (by rfl) (by kernel_rfl) (by kernel_rfl) (fun _ _ _ h => h) ?_ (by assumption) ?_
              rotate_left
              · (intro w hSw; (try dsimp only at hSw); go_simp; try with_reducible rfl)
              try simp only [Act.put, List.setIfInBounds_toArray, List.set_cons_zero, List.set_cons_succ]
              refine held_take 5 (oi := { dst := some 74, op := Op.load 26 (Operand.tmp 73), type := 26, pos := "ref.go:103", after := #[{ on := 4, ground := Ground.data }], guard := none }) (v := ?_) (by kernel_rfl) rfl (by rfl) (by kernel_rfl) (by kernel_rfl) (fun _ _ _ h => h) ?_ (by assumption) ?_
              rotate_left
              · (intro w hSw; (try dsimp only at hSw); go_simp; try with_reducible rfl)
              try simp only [Act.put, List.setIfInBounds_toArray, List.set_cons_zero, List.set_cons_succ]
              refine held_take 6 (oi := { dst := some 75, op := Op.move (Operand.tmp 12), type := 3, pos := "ref.go:103", after := #[], guard := none }) (v := ?_) (by kernel_rfl) rfl (by rfl) (by kernel_rfl) (by kernel_rfl) (fun _ _ _ h => h) ?_ (by assumption) ?_
              rotate_left
              · (intro w hSw; (try dsimp only at hSw); go_simp; try with_reducible rfl)
              try simp only [Act.put, List.setIfInBounds_toArray, List.set_cons_zero, List.set_cons_succ]
              refine held_take 7 (oi := { dst := some 76, op := Op.indexAddr 26 (Operand.tmp 74) (Operand.tmp 75), type := 0, pos := "ref.go:103", after := #[{ on := 5, ground := Ground.data }, { on := 6, ground := Ground.data }], guard := none }) (v := ?_) (by kernel_rfl) rfl (by rfl) (by kernel_rfl) (by kernel_rfl) (fun _ _ _ h => h) ?_ (by assumption) ?_
              rotate_left
              · (intro w hSw; (try dsimp only at hSw); go_simp; try with_reducible rfl)
              try simp only [Act.put, List.setIfInBounds_toArray, List.set_cons_zero, List.set_cons_succ]
              refine held_take 8 (oi := { dst := some 77, op := Op.fieldAddr 39 (Operand.tmp 76) 1, type := 0, pos := "ref.go:103", after := #[{ on := 7, ground := Ground.data }], guard := none }) (v := ?_) (by kernel_rfl) rfl (by rfl) (by kernel_rfl) (by kernel_rfl) (fun _ _ _ h => h) ?_ (by assumption) ?_
              rotate_left
              · (intro w hSw; (try dsimp only at hSw); go_simp; try with_reducible rfl)
              try simp only [Act.put, List.setIfInBounds_toArray, List.set_cons_zero, List.set_cons_succ]
              refine held_take 9 (oi := { dst := some 78, op := Op.load 37 (Operand.tmp 77), type := 37, pos := "ref.go:103", after := #[{ on := 8, ground := Ground.data }], guard := none }) (v := ?_) (by kernel_rfl) rfl (by rfl) (by kernel_rfl) (by kernel_rfl) (fun _ _ _ h => h) ?_ (by assumption) ?_
              rotate_left
              · (intro w hSw; (try dsimp only at hSw); go_simp; try with_reducible rfl)
              try simp only [Act.put, List.setIfInBounds_toArray, List.set_cons_zero, List.set_cons_succ]
              refine held_take 10 (oi := { dst := some 79, op := Op.move (Operand.tmp 13), type := 3, pos := "ref.go:103", after := #[], guard := none }) (v := ?_) (by kernel_rfl) rfl (by rfl) (by kernel_rfl) (by kernel_rfl) (fun _ _ _ h => h) ?_ (by assumption) ?_
              rotate_left
              · (intro w hSw; (try dsimp only at hSw); go_simp; try with_reducible rfl)
              try simp only [Act.put, List.setIfInBounds_toArray, List.set_cons_zero, List.set_cons_succ]
              refine held_take 11 (oi := { dst := some 80, op := Op.indexAddr 37 (Operand.tmp 78) (Operand.tmp 79), type := 0, pos := "ref.go:103", after := #[{ on := 9, ground := Ground.data }, { on := 10, ground := Ground.data }], guard := none }) (v := ?_) (by kernel_rfl) rfl (by rfl) (by kernel_rfl) (by kernel_rfl) (fun _ _ _ h => h) ?_ (by assumption) ?_
              rotate_left
              · (intro w hSw; (try dsimp only at hSw); go_simp; try with_reducible rfl)
              try simp only [Act.put, List.setIfInBounds_toArray, List.set_cons_zero, List.set_cons_succ]
              refine held_take 12 (oi := { dst := some 81, op := Op.fieldAddr 41 (Operand.tmp 80) 0, type := 0, pos := "ref.go:103", after := #[{ on := 11, ground := Ground.data }], guard := none }) (v := ?_) (by kernel_rfl) rfl (by rfl) (by kernel_rfl) (by kernel_rfl) (fun _ _ _ h => h) ?_ (by assumption) ?_
              rotate_left
              · (intro w hSw; (try dsimp only at hSw); go_simp; try with_reducible rfl)
              try simp only [Act.put, List.setIfInBounds_toArray, List.set_cons_zero, List.set_cons_succ]
              refine held_take 13 (oi := { dst := some 82, op := Op.load 9 (Operand.tmp 81), type := 9, pos := "ref.go:103", after := #[{ on := 12, ground := Ground.data }], guard := none }) (v := ?_) (by kernel_rfl) rfl (by rfl) (by kernel_rfl) (by kernel_rfl) (fun _ _ _ h => h) ?_ (by assumption) ?_
              rotate_left
              · (intro w hSw; (try dsimp only at hSw); go_simp; try with_reducible rfl)
              try simp only [Act.put, List.setIfInBounds_toArray, List.set_cons_zero, List.set_cons_succ]
              refine held_take 14 (oi := { dst := some 83, op := Op.build 43 #[(0, Operand.const (Value.int IntKind.i64 200)), (1, Operand.tmp 70), (2, Operand.tmp 72), (3, Operand.tmp 82)], type := 43, pos := "ref.go:103", after := #[{ on := 1, ground := Ground.data }, { on := 3, ground := Ground.data }, { on := 13, ground := Ground.data }], guard := none }) (v := ?_) (by kernel_rfl) rfl (by rfl) (by kernel_rfl) (by kernel_rfl) (fun _ _ _ h => h) ?_ (by assumption) ?_
              rotate_left
              · (intro w hSw; (try dsimp only at hSw); go_simp; try with_reducible rfl)
              try simp only [Act.put, List.setIfInBounds_toArray, List.set_cons_zero, List.set_cons_succ]
              refine held_one 15 (oi := { dst := none, op := Op.store 43 (Operand.tmp 6) (Operand.tmp 83), type := 0, pos := "ref.go:103", after := #[{ on := 14, ground := Ground.data }, { on := 0, ground := Ground.phase }, { on := 1, ground := Ground.phase }, { on := 2, ground := Ground.phase }, { on := 3, ground := Ground.phase }, { on := 4, ground := Ground.phase }, { on := 5, ground := Ground.phase }, { on := 6, ground := Ground.phase }, { on := 7, ground := Ground.phase }, { on := 8, ground := Ground.phase }, { on := 9, ground := Ground.phase }, { on := 10, ground := Ground.phase }, { on := 11, ground := Ground.phase }, { on := 12, ground := Ground.phase }, { on := 13, ground := Ground.phase }, { on := 14, ground := Ground.phase }], guard := none }) (by kernel_rfl) rfl (fun K hK => ?_)
              go_simp
              go_wp2_with fail
              refine hK.out _ _ ?_ (fun hHeld => ?_)
              · try dsimp only
                first | exact (unhide SK _ rfl).1 | exact (unhide SK _ rfl).2
              clear hK K
              try simp only [Act.put, List.setIfInBounds_toArray, List.set_cons_zero, List.set_cons_succ]
              refine wpAnyH_done (by kernel_rfl) ?_ _
              clear c0 c1 c2 z0 z1 z2 z3 f0 f1 f2 f3 x2 p1 t0 SK
              generalize ((((V5.setCell ⟨w.heap.size + 1, 0, none⟩ (.int .i64 200)).setCell ⟨w.heap.size + 1, 1, none⟩ (.int .i64 e.ver)).setCell ⟨w.heap.size + 1, 2, none⟩ (.string pool)).setCell ⟨w.heap.size + 1, 3, none⟩ (.string ad)).drew = W9 at *
              go_wp2_with fail
              have g0 := fcell0 (unhide A1) 0 _ rfl
              have g1 := fcell0 (unhide A1) 1 _ rfl
              have g2 := fcell0 (unhide A1) 2 _ rfl
              have g3 := fcell0 (unhide A1) 3 _ rfl
              refine bodyPost_ret (v := .agg #[.int .i64 200, .int .i64 e.ver, .string pool, .string ad]) (by simp [results, Tryz.results11, go_sem, g0, g1, g2, g3]) rfl ⟨?_, unhide A2⟩
              rw [unhide SD]
        · have hjj : ¬ (j : Int) < (e.ps.length : Int) := by omega
          obtain rfl : j = e.ps.length := by omega
          have HI := hide (show addrN pool e.ps d = none from by
            unfold addrN poolN
            rw [List.findIdx?_eq_none_iff.2 (fun x hx' => by
              obtain ⟨q, hq, rfl⟩ := List.getElem_of_mem hx'
              exact unhide hdone q (by omega) hq)])
          rw [unhide HI] at SD
          dsimp only at SD
          obtain ⟨a1, a2⟩ := set4 (x := .int .i64 503) (y := .int .i64 e.ver) (z := .string pool) (u := .string ⟨#[]⟩) (unhide Z).r1
          have A1 := hide a1
          have A2 := hide a2
          clear a1 a2
          obtain ⟨⟨c0, c1, c2⟩, ⟨z0, z1, z2, z3⟩, ⟨f0, f1, f2, f3⟩⟩ := (unhide Z).cells
          go_wp2_with fail
          clear c0 c1 c2 z0 z1 z2 z3 f0 f1 f2 f3
          generalize ((((World.setCell _ ⟨w.heap.size + 1, 0, none⟩ (.int .i64 503)).setCell ⟨w.heap.size + 1, 1, none⟩ (.int .i64 e.ver)).setCell ⟨w.heap.size + 1, 2, none⟩ (.string pool)).setCell ⟨w.heap.size + 1, 3, none⟩ (.string ⟨#[]⟩)) = W9 at *
          have g0 := fcell0 (unhide A1) 0 _ rfl
          have g1 := fcell0 (unhide A1) 1 _ rfl
          have g2 := fcell0 (unhide A1) 2 _ rfl
          have g3 := fcell0 (unhide A1) 3 _ rfl
          have VB := (unhide Z).bel.grown (unhide A2) (unhide Z).bel.size (fun g e => by have := Option.some.inj e; omega)
          refine bodyPost_ret (v := .agg #[.int .i64 503, .int .i64 e.ver, .string pool, .string ⟨#[]⟩]) (by simp [results, Tryz.results11, go_sem, g0, g1, g2, g3]) rfl ⟨?_, VB⟩
          rw [unhide SD]
end Go.Proofs.YtcmiappiocfbiaaGreatDoor
end
