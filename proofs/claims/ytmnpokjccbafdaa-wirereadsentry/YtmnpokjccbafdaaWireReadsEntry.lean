/- Proved: for all bytes wire.GetEntry answers the entry of the bytes, or the error, as the document's answer does; no condition. -/
import Derived.Test.YtmnpokjccbafdaaArg
import Derived.Test.YtmnpokjccbafdaaWliv
import Derived.Test.YtmnpokjccbafdaaRsc4
namespace Go.Proofs.Ytmnpokjccbafdaa.wireReadsEntry
open Go.ChangeShapes Go.WideShapes Go.ChangeAt Go.RowKit
set_option linter.unusedVariables false

theorem own : ownKnob Try.prog.godebug = none := by kernel_rfl
theorem laidOut : laidOutB Try.prog = true := by kernel_rfl

/-- The parts of an answer. -/
def kOf : Except Nat (Nat × Nat × Nat × List Nat) → Int | .ok p => p.1 | .error _ => 0
def tOf : Except Nat (Nat × Nat × Nat × List Nat) → Int | .ok p => p.2.1 | .error _ => 0
def iOf : Except Nat (Nat × Nat × Nat × List Nat) → Int | .ok p => p.2.2.1 | .error _ => 0
def dOf : Except Nat (Nat × Nat × Nat × List Nat) → List Nat | .ok p => p.2.2.2 | .error _ => []
def xOf : Except Nat (Nat × Nat × Nat × List Nat) → Int | .ok _ => 0 | .error x => x
/-- What GetEntry answers, its parts. -/
theorem entRes_parts {base : Nat} {r : Except Nat (Nat × Nat × Nat × List Nat)} {w : World} {v : Value} (h : EntRes base r w v) :
    ∃ sp m c, v = .tuple #[entVal (kOf r) (tOf r) (iOf r) sp m c, .int .i64 (xOf r)] ∧ Hid ((dOf r).length = m) ∧ BytesAt w sp (dOf r) := by
  cases r with
  | error x => exact ⟨none, 0, 0, h, rfl, ⟨by simp [dOf], by simp [dOf]⟩⟩
  | ok p =>
    obtain ⟨sp, m, c, rfl, h1, h2⟩ := h
    exact ⟨sp, m, c, rfl, h1, h2.bytes⟩

set_option maxHeartbeats 1000000 in
theorem walk (a0 : Option Addr) (c0 : Nat) (l0 : List Nat) (w : World) (hc0 : l0.length ≤ c0) (hm0 : c0 ≤ 140737488355328) (hb0 : BytesAt w a0 l0) (hz0 : a0 = none → c0 = 0) :
    Calls Try.prog 7 #[.slice a0 l0.length c0] w fun e w' => e = .returned (.bool true) ∧ Below w.heap.size w w' := by
  have HB := hide hb0
  have HL := hide (show l0.length ≤ 140737488355328 by omega)
  have HC := hide hc0
  have HZ := hide hz0
  clear hb0 hc0 hm0 hz0
  go_enter Try.func7, Try.ntmps7
  go_wp2_with fail
  refine (getEntry_calls a0 _ c0 l0 _ rfl (unhide HL) (unhide HC) (unhide HZ) (unhide HB)).mono ?_
  generalize hr0 : wholeE l0 (entryE l0 0) = r
  rintro e W1 ⟨⟨v1, rfl, h1⟩, hb1⟩
  obtain ⟨sp1, m1, k1, rfl, hm1, hB1⟩ := entRes_parts h1
  clear h1
  generalize hk : kOf r = k at *
  generalize ht : tOf r = t at *
  generalize hi : iOf r = i at *
  generalize hd : dOf r = d at *
  generalize hx : xOf r = x at *
  have HK := hide hk
  have HT := hide ht
  have HI := hide hi
  have HD := hide hd
  have HX := hide hx
  clear hk ht hi hd hx
  have b2 : Below W1.heap.size W1 (W1.alloc (entB k t i sp1 m1 k1)) := (Below.refl _ _).alloc (Nat.le_refl _) _
  have X2 := hide (heap_new W1 (entB k t i sp1 m1 k1))
  have Z2 := hide (size_alloc W1 (entB k t i sp1 m1 k1))
  have F2 := hide (hb1.trans (b2.mono hb1.size))
  have B2 := hide (hB1.later b2)
  clear hb1 hB1 b2
  go_wp2_with fail
  generalize W1.alloc _ = W2 at *
  refine (refGetEntry_calls a0 _ c0 l0 _ rfl (unhide HL) (unhide HC) (unhide HZ) ((unhide HB).later (unhide F2))).mono ?_
  rw [hr0]
  rintro e W3 ⟨⟨v3, rfl, h3⟩, hb3⟩
  obtain ⟨sp3, m3, k3, rfl, hm3, hB3⟩ := entRes_parts h3
  clear h3
  rw [unhide HK, unhide HT, unhide HI, unhide HX]
  rw [unhide HD] at hm3 hB3
  have b4 : Below W3.heap.size W3 (W3.alloc (entB k t i sp3 m3 k3)) := (Below.refl _ _).alloc (Nat.le_refl _) _
  have X4 := hide (heap_new W3 (entB k t i sp3 m3 k3))
  have Z4 := hide (size_alloc W3 (entB k t i sp3 m3 k3))
  have hb34 := hb3.trans (b4.mono hb3.size)
  have Y4 := hide ((hb34.block _ (by rw [unhide Z2]; omega)).trans (unhide X2))
  have F4 := hide ((unhide F2).trans (hb34.mono (unhide F2).size))
  have B4 := hide (hB3.later b4)
  have C4 := hide ((unhide B2).later hb34)
  have hs4 := hide (show W1.heap.size < (W3.alloc (entB k t i sp3 m3 k3)).heap.size from Nat.lt_of_lt_of_le (by rw [unhide Z2]; omega) hb34.size)
  clear hb3 hB3 b4 hb34 F2 B2 X2
  go_wp2_with fail
  generalize W3.alloc _ = W4 at *
  refine (live2_calls _).mono ?_
  rintro e W5 ⟨rfl, hb5⟩
  obtain ⟨c0', c1', c2', c3'⟩ := entB_cells ((hb5.block _ (by exact unhide hs4)).trans (unhide Y4))
  obtain ⟨d0', d1', d2', d3'⟩ := entB_cells ((hb5.block _ (by rw [unhide Z4]; omega)).trans (unhide X4))
  have F5 := hide ((unhide F4).trans (hb5.mono (unhide F4).size))
  have B5 := hide ((unhide B4).later hb5)
  have C5 := hide ((unhide C4).later hb5)
  clear hb5 F4 B4 C4
  go_wp2_with fail
  refine (sameEntry_yes k t i sp1 sp3 m1 m3 k1 k3 d _ (unhide hm1) (unhide hm3) (unhide C5) (unhide B5)).mono ?_
  rintro e W6 ⟨rfl, hb6⟩
  have F6 := hide ((unhide F5).trans (hb6.mono (unhide F5).size))
  clear hb6
  go_wp2
  go_ret
  exact ⟨rfl, unhide F6⟩

set_option maxRecDepth 100000 in
theorem lifted (os : Os) (started : os.Started) (H : Type) (enc : TypeId × Value → H) :
    ReturnsInHanded {} Try.checked os 7 .any (Rows.wireReadsEntrySpec.pre6 enc Try.prog Try.f7 Rows.wireReadsEntryRow.domain false) (Rows.wireReadsEntrySpec.post enc Try.prog Try.f7 false true false false) := by
  refine returnsInHanded_of_change_sized (C := Try.checked) own started (by kernel_rfl) Try.func7
    (ChangeSpec.witness6 (enc := enc) (C := Try.checked) false ⟨#[], #[.slice none 0 0], []⟩ 8 (by kernel_rfl) (by kernel_rfl) (by kernel_rfl) (by kernel_rfl)) ?_
  intro W base args ds gs before hval0 hW hcnd hsz _
  have hval : ∀ (j : Nat) t v, Try.f7.params[j]? = some t → args[j]? = some v → Value.okWide Try.prog W .any base t v := hval0
  have hW' := hW
  obtain ⟨p, q, hA0, hV, rfl, hfz, hnd⟩ := hW
  have hA : DataW.TrodAll enc Try.prog W 0 (fun _ => true) true Try.f7.params.toList args.toList ds p := hA0
  rw [Try.params7] at hA hval
  obtain ⟨v0, vs0, d0, ds0, p0, q0, hargs, rfl, rfl, h0, r0⟩ := trodAll_cons hA
  obtain ⟨rfl, rfl, rfl⟩ := trodAll_nil r0
  obtain rfl : args = #[v0] := by cases args; simp_all
  obtain ⟨rfl, rfl⟩ := trodVars_none hV
  obtain ⟨a0, len0, c0, rfl⟩ := okWide_slice Try.underlying22 (hval 0 22 v0 rfl rfl)
  have k0 := h0
  have lt0 : ∀ x ∈ p0, x.block < W.heap.size := by obtain ⟨m, hm⟩ := k0; exact DataW.trod_lt m _ _ _ hm
  obtain ⟨l0, rfl, hc0, hx0, hb0, hz0, hr0⟩ := row8 h0
  clear hA0 hval0
  have hm0 : c0 ≤ 140737488355328 := reach8 hsz (j := 0) (d := d0) rfl rfl hr0
  refine (walk a0 c0 l0 W hc0 hm0 hb0 hz0).mono fun e W' ⟨he, bel⟩ => ?_
  subst he
  exact ⟨_, rfl, _, _, _, [], _, [], hW', trodAll_mk1 (shut_bool Try.underlying4 _), (trodAll_cons_mk (Below.trod laidOut (by kernel_rfl) (of_decide_eq_true (by kernel_rfl)) k0 bel lt0) trodAll_mk0), rfl, bel.frame _, fun h => by cases h⟩

theorem proved : Rows.WireReadsEntrySaid :=
  OpenClaim.holds_of_wide 7 Try.f7 rfl rfl rfl rfl rfl rfl rfl ⟨rfl, rfl, rfl, rfl, rfl⟩ rfl rfl rfl rfl rfl (by kernel_rfl) Try.func7 (by kernel_rfl)
    (of_decide_eq_true (by kernel_rfl)) (by unfold Func.isWrapper; first | (rw [if_pos (by decide +kernel)]; kernel_rfl) | (rw [if_neg (by decide +kernel)]; exact ⟨rfl, rfl⟩))
    (fun os started H enc _ => lifted os started H enc)
end Go.Proofs.Ytmnpokjccbafdaa.wireReadsEntry
namespace Go.Proofs.Ytmnpokjccbafdaa
theorem wireReadsEntry_holds : Rows.WireReadsEntrySaid := wireReadsEntry.proved
#print axioms wireReadsEntry_holds
end Go.Proofs.Ytmnpokjccbafdaa
