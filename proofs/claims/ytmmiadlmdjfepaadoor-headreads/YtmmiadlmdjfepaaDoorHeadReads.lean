/- Bytes are just the head that the document says, or the error; they stay: tollgatelaw09.HeadReads answers true, for all bytes. No condition. The tables of the library's are as the card ties them (lz_of). -/
import Derived.Test.YtmmiadlmdjfepaaDoorHr9
import Derived.Test.YtmmiadlmdjfepaaDoorHdr
import Derived.Test.YtmmiadlmdjfepaaDoorHdv
import Derived.Test.YtmmiadlmdjfepaaDoorLzw
import Derived.Test.YtmmiadlmdjfepaaDoorApp
import Derived.Test.YtmmiadlmdjfepaaDoorHdf
import Derived.Test.YtmmiadlmdjfepaaDoorTie
import Derived.Test.YtmmiadlmdjfepaaDoorCards
import Derived.Lay
import Derived.MakeChecks
import Derived.SevenTiedAt
import Derived.Stop.Joined
namespace Go.Proofs.YtmmiadlmdjfepaaDoor.headReads
open Go.ChangeShapes Go.WideShapes Go.ChangeAt Go.RowKit
set_option linter.unusedVariables false

theorem own : ownKnob Tryd.prog.godebug = none := by kernel_rfl
theorem laidOut : laidOutB Tryd.prog = true := by kernel_rfl

theorem own_nil {base : Nat} {w : World} {sp : Option Addr} {c : Nat} {l : List Nat} (h : OwnB base w sp c l) : sp = none → c = 0 := by
  intro e
  subst e
  rcases h.owns.2 with ⟨hv, _⟩ | ⟨g, cap, cur, hv, _⟩
  · simp only [Value.slice.injEq] at hv; exact hv.2.2
  · simp at hv
/-- What a reader answers: a head's value, a place, an error. -/
structure PV (t : Tx) (h : Hd) (at_ e : Int) : Prop where
  is : (∃ k : Nat, parseL t = .ok h k ∧ at_ = (k : Int) ∧ e = 0) ∨ (∃ n : Nat, parseL t = .bad n ∧ h = ⟨[], [], [], [], []⟩ ∧ at_ = 0 ∧ e = (n : Int))
theorem pv_of {t : Tx} : ∃ h at_ e, PV t h at_ e ∧ HdLe 4096 h ∧ ∀ ed W, ParseRes t ed W → ∃ sp c, ed = .returned (.tuple #[hdVal h sp c, .int .i64 at_, .int .i64 e]) ∧ FdsAt W sp h.fields := by
  cases hp : parseL t with
  | ok h k =>
    refine ⟨h, k, 0, ⟨.inl ⟨k, hp, rfl, rfl⟩⟩, parse_le hp, fun ed W hr => ?_⟩
    unfold ParseRes at hr
    rw [hp] at hr
    obtain ⟨sp, c, h1, h2, _⟩ := hr
    exact ⟨sp, c, h1, h2⟩
  | bad n =>
    refine ⟨⟨[], [], [], [], []⟩, 0, n, ⟨.inr ⟨n, hp, rfl, rfl, rfl⟩⟩, ⟨by simp, by simp, by simp, by simp, by simp, by simp⟩, fun ed W hr => ?_⟩
    unfold ParseRes at hr
    rw [hp] at hr
    exact ⟨none, 0, hr, fun i hi => by simp at hi⟩
set_option maxRecDepth 20000 in
set_option maxHeartbeats 8000000 in
theorem walk (a0 : Option Addr) (c0 : Nat) (l0 : List Nat) (w : World) (hc0 : l0.length ≤ c0) (hm0 : c0 ≤ 140737488355328) (hb0 : BytesAt w a0 l0) (hz0 : a0 = none → c0 = 0) (hLz : Lz w) :
    Calls Tryd.prog 3 #[.slice a0 l0.length c0] w fun e w' => e = .returned (.bool true) ∧ Below w.heap.size w w' := by
  have LV := hide (show ∀ U, Below w.heap.size w U → Calls Tryd.prog 12 #[] U fun e w' => e = .returned (.bool true) ∧ Below U.heap.size U w' from fun U hb => live9_calls U (hLz.later hb))
  obtain ⟨h, at_, er, hpv, hle, hres⟩ := pv_of (t := txN l0)
  have HR := hide hres
  have SC := hide (show ∀ U sp c sp' c', FdsAt U sp h.fields → FdsAt U sp' h.fields → Calls Tryd.prog 13 #[hdVal h sp c, hdVal h sp' c'] U fun e w' => e = .returned (.bool true) ∧ Below U.heap.size U w' from fun U sp c sp' c' h1 h2 => sameH_calls c c' h1 h2 (hle.mono (by decide)))
  have HL := hide (show ∀ U, Below w.heap.size w U → Lz U from fun U hu => hLz.later hu)
  have HB := hide hb0
  have HZ := hide hz0
  have B1 := hide (show Below w.heap.size w (w.alloc (.cells #[] 5)) from (Below.refl _ _).alloc (Nat.le_refl _) _)
  have O1 := hide (OwnB.empty w w.heap.size (Nat.le_refl _))
  have Y1 := hide (hb0.later (unhide B1))
  have Q1 := hide (unhide B1).size
  have hste : (strOf l0).toList == (strOf l0).toList := by simp
  have hsz : (strOf l0).size ≤ 9223372036854775807 := by rw [strOf_tx, stS_size, txN_len]; omega
  generalize hn : l0.length = n0 at *
  have HN := hide hn
  clear hn hpv hle hres hLz hb0 hz0
  unfold hdVal at SC HR
  generalize stS h.method = sm at *
  generalize stS h.path = sp at *
  generalize stS h.query = sq at *
  generalize stS h.host = sx at *
  generalize h.fields.length = nf at *
  go_enter Tryd.func3, Tryd.ntmps3
  go_wp2_with (first
    | (at_builtin; have hV : Q1 = Q1 := rfl; clear hV; refine wpList_append8 rfl (.tmp 10) (.tmp 11) rfl w.heap.size (some ⟨w.heap.size, 0, none⟩) 0 0 [] rfl rfl (by exact unhide O1) a0 n0 c0 rfl l0 (unhide HN) (by exact unhide Y1) (unhide HZ) (by simp only [List.length_nil]; omega) (by exact unhide Q1) ?_; intro sp1 n1 c1 W1 hn1 ho1 hg1 hx1; clear hg1 Q1
       have B2 := hide ((unhide B1).trans hx1)
       rw [List.nil_append] at hn1 ho1
       obtain rfl : n1 = n0 := by rw [← unhide hn1]; exact unhide HN
       have O2 := hide ho1
       have Y2 := hide ((unhide HB).later (unhide B2))
       have PC := hide (parse_calls sp1 n1 c1 l0 W1 (unhide HN) (by have := ho1.cap.1; rw [unhide HN] at this; exact this) ho1.bytes (own_nil ho1) (unhide HL _ (unhide B2)))
       clear ho1 hx1 O1 Y1)
    | (go_at_call 10; refine (unhide PC).mono ?_; rintro e W2 ⟨he2, hb2⟩
       obtain ⟨sp2, c2, rfl, hf2⟩ := unhide HR _ _ he2
       have B3 := chain B2 hb2
       have X3 := heap_new W2 (.cells #[.string sm, .string sp, .string sq, .string sx, .slice sp2 nf c2] 25)
       have a3 : Below W2.heap.size W2 (W2.alloc (.cells #[.string sm, .string sp, .string sq, .string sx, .slice sp2 nf c2] 25)) := (Below.refl _ _).alloc (Nat.le_refl _) _
       have B4 := chain B3 a3
       have F4 := hide (hf2.later a3)
       have O4 := hide (((unhide O2).bytes.later hb2).later a3)
       have p0 := box_cell X3 0 _ rfl
       have p1 := box_cell X3 1 _ rfl
       have p2 := box_cell X3 2 _ rfl
       have p3 := box_cell X3 3 _ rfl
       have p4 := box_cell X3 4 _ rfl
       have PR := hide (parseR_calls a0 n1 c0 l0 (W2.alloc (.cells #[.string sm, .string sp, .string sq, .string sx, .slice sp2 nf c2] 25)) (unhide HN) hc0 (by omega) ((unhide HB).later (unhide B4)))
       clear he2 hb2 hf2 X3 a3 PC)
    | (go_at_call 11; refine (unhide PR).mono ?_; rintro e W5 ⟨he5, hb5⟩
       obtain ⟨sp5, c5, rfl, hf5⟩ := unhide HR _ _ he5
       have B5 := chain B4 hb5
       have X5 := heap_new W5 (.cells #[.string sm, .string sp, .string sq, .string sx, .slice sp5 nf c5] 25)
       have a5 : Below W5.heap.size W5 (W5.alloc (.cells #[.string sm, .string sp, .string sq, .string sx, .slice sp5 nf c5] 25)) := (Below.refl _ _).alloc (Nat.le_refl _) _
       have B6 := chain B5 a5
       have F6 := hide (hf5.later a5)
       have G6 := hide (((unhide F4).later hb5).later a5)
       have O6 := hide (((unhide O4).later hb5).later a5)
       have q0 := box_cell X5 0 _ rfl
       have q1 := box_cell X5 1 _ rfl
       have q2 := box_cell X5 2 _ rfl
       have q3 := box_cell X5 3 _ rfl
       have q4 := box_cell X5 4 _ rfl
       have r0 := cell_later a5 (cell_later hb5 p0)
       have r1 := cell_later a5 (cell_later hb5 p1)
       have r2 := cell_later a5 (cell_later hb5 p2)
       have r3 := cell_later a5 (cell_later hb5 p3)
       have r4 := cell_later a5 (cell_later hb5 p4)
       clear he5 hb5 hf5 X5 a5 PR)
    | (go_at_call 12; refine (unhide LV _ (unhide B6)).mono ?_; rintro e W7 ⟨rfl, hb7⟩
       have B7 := chain B6 hb7
       have F7 := hide ((unhide F6).later hb7)
       have G7 := hide ((unhide G6).later hb7)
       have O7 := hide ((unhide O6).later hb7)
       have s0 := cell_later hb7 q0
       have s1 := cell_later hb7 q1
       have s2 := cell_later hb7 q2
       have s3 := cell_later hb7 q3
       have s4 := cell_later hb7 q4
       have t0 := cell_later hb7 r0
       have t1 := cell_later hb7 r1
       have t2 := cell_later hb7 r2
       have t3 := cell_later hb7 r3
       have t4 := cell_later hb7 r4
       clear hb7)
    | (go_at_call 13; refine (unhide SC _ _ _ _ _ (unhide G7) (unhide F7)).mono ?_; rintro e W8 ⟨rfl, hb8⟩
       have B8 := chain B7 hb8
       have hk1 := run_string8 (w := W8) n1 c1 (unhide HN) ((unhide O7).later hb8)
       have hk2 := run_string8 (w := W8) n1 c0 (unhide HN) ((unhide HB).later (unhide B8))
       clear hb8))
  go_ret
  exact ⟨rfl, unhide B8⟩

set_option maxRecDepth 100000 in
theorem lifted (os : Os) (started : os.Started) (H : Type) (enc : TypeId × Value → H) :
    ReturnsInHanded {} Tryd.checked os 3 .any (fun w args => (Rows.headReadsSpec.pre enc Tryd.prog Tryd.f3 Rows.headReadsRow.domain false w args ∧ laidMetH Tryd.prog Rows.headReadsRow.laid w) ∧ sizedMet enc Tryd.prog Tryd.f3 (OpenSpec.ofChange Rows.headReadsSpec) false w args)
      (Rows.headReadsSpec.post enc Tryd.prog Tryd.f3 false true false false) := by
  refine handed_both (C := Tryd.checked) (X := fun w _ => laidMetH Tryd.prog Rows.headReadsRow.laid w) (fun _ _ _ hh h => h.of_heap hh) own started (by kernel_rfl) Tryd.func3
    (ChangeSpec.witness_shaped (enc := enc) (C := Tryd.checked) (os := os) (X := fun w _ => laidMetH Tryd.prog Rows.headReadsRow.laid w) false (World.laidAll Tryd.prog os Rows.headReadsRow.laid) #[.slice none 0 0] 8 (World.laidAll_os _ _ _)
      (World.shaped_of_ZipB (by kernel_rfl) (by kernel_rfl)) (by kernel_rfl) (by kernel_rfl) (by kernel_rfl)
      (by rw [MakeChecks.laidMetH_plain _ _ _ (by kernel_rfl)]; exact laidMet_laidAll _ (by kernel_rfl) (by kernel_rfl))) ?_
  intro W base args ds gs before hval0 hW hcnd hsz hL hsh _
  have hLz : Lz W := lz_of (by rw [MakeChecks.laidMetH_plain _ _ _ (by kernel_rfl)] at hL; exact hL) hsh
  have hval : ∀ (j : Nat) t v, Tryd.f3.params[j]? = some t → args[j]? = some v → Value.okWide Tryd.prog W .any base t v := hval0
  have hW' := hW
  obtain ⟨p, q, hA0, hV, rfl, hfz, hnd⟩ := hW
  have hA : DataW.TrodAll enc Tryd.prog W 0 (fun _ => true) true Tryd.f3.params.toList args.toList ds p := hA0
  rw [Tryd.params3] at hA hval
  obtain ⟨v0, vs0, d0, ds0, p0, q0, hargs, rfl, rfl, h0, r0⟩ := trodAll_cons hA
  obtain ⟨rfl, rfl, rfl⟩ := trodAll_nil r0
  obtain rfl : args = #[v0] := by cases args; simp_all
  obtain ⟨rfl, rfl⟩ := trodVars_none hV
  obtain ⟨a0, len0, c0, rfl⟩ := okWide_slice Tryd.underlying22 (hval 0 22 v0 rfl rfl)
  have k0 := h0
  have lt0 : ∀ x ∈ p0, x.block < W.heap.size := by obtain ⟨m, hm⟩ := k0; exact DataW.trod_lt m _ _ _ hm
  obtain ⟨l0, rfl, hc0, hx0, hb0, hz0, hr0⟩ := row8 h0
  clear hA0 hval0
  have hm0 : c0 ≤ 140737488355328 := reach8 hsz (j := 0) (d := d0) rfl rfl hr0
  refine (walk a0 c0 l0 W hc0 hm0 hb0 hz0 hLz).mono fun e W' ⟨he, bel⟩ => ?_
  subst he
  exact ⟨_, rfl, _, _, _, [], _, [], hW', trodAll_mk1 (shut_bool Tryd.underlying4 _), (trodAll_cons_mk (Below.trod laidOut (by kernel_rfl) (of_decide_eq_true (by kernel_rfl)) k0 bel lt0) trodAll_mk0), rfl, bel.frame _, fun h => by cases h⟩

theorem proved : Rows.HeadReadsSaid :=
  OpenClaim.holds_of_wide 3 Tryd.f3 rfl rfl rfl rfl rfl rfl rfl ⟨rfl, rfl, rfl, rfl, rfl⟩ rfl rfl rfl rfl rfl (by kernel_rfl) Tryd.func3 (by kernel_rfl)
    (of_decide_eq_true (by kernel_rfl)) (by unfold Func.isWrapper; first | (rw [if_pos (by decide +kernel)]; kernel_rfl) | (rw [if_neg (by decide +kernel)]; exact ⟨rfl, rfl⟩))
    (fun os started H enc _ => lifted os started H enc)
theorem card : Rows.HeadReadsCardSaid :=
  Claim7.holds_tied_plain_at .later [] [.data, .pinned, .pinned] true (true, "751a8e46b2fe3491d32f44b17778bde18806f999503f591f6324dd31d7eb6dd5") false proved (fun _ h => by cases h) (by kernel_rfl) (fun _ h => by cases h) headReads_row_tie rfl ⟨rfl, rfl⟩ (by kernel_rfl) rfl
    (fun f fn hf hfn => by
      obtain rfl : f = 3 := Option.some.inj ((show Tryd.prog.funcNamed "tollgate/tollgatelaw09.HeadReads" = some 3 by kernel_rfl).symm.trans hf) |>.symm
      obtain rfl : fn = Tryd.f3 := (Option.some.inj (Tryd.func3.symm.trans hfn)).symm
      exact ⟨by kernel_rfl, fun j t ht => by
        rw [Tryd.params3] at ht
        have hm : t ∈ [22] := by simpa using Array.mem_of_getElem? ht
        have hall : ([22].all fun u => !Tryd.prog.wantsStandIn u) = true := by kernel_rfl
        exact (show Tryd.prog.wantsStandIn t = false by simpa using List.all_eq_true.1 hall t hm)⟩)
    (by kernel_rfl)
end Go.Proofs.YtmmiadlmdjfepaaDoor.headReads
namespace Go.Proofs.YtmmiadlmdjfepaaDoor
theorem headReads_holds : Rows.HeadReadsCardSaid := headReads.card
#print axioms headReads_holds
end Go.Proofs.YtmmiadlmdjfepaaDoor
