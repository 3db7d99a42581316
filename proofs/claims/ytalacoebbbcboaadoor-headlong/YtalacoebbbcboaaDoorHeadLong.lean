/- A head ends within MaxHead bytes, or it is ErrLimit: tollgatelaw09.HeadLong answers true, however long the field's value is. No condition. The tables of the library's are as the card ties them (lz_of). -/
import Derived.Test.YtalacoebbbcboaaDoorHdi
import Derived.Test.YtalacoebbbcboaaDoorHdh
import Derived.Test.YtalacoebbbcboaaDoorArg
import Derived.Test.YtalacoebbbcboaaDoorTie
import Derived.Test.YtalacoebbbcboaaDoorCards
import Derived.Lay
import Derived.MakeChecks
import Derived.SevenTiedAt
import Derived.Stop.Joined
namespace Go.Proofs.YtalacoebbbcboaaDoor.headLong
open Go.ChangeShapes Go.WideShapes Go.ChangeAt Go.RowKit
set_option linter.unusedVariables false

theorem own : ownKnob Tryd.prog.godebug = none := by kernel_rfl
theorem laidOut : laidOutB Tryd.prog = true := by kernel_rfl

theorem u16_nat {n : Int} (h : (Lit.int .u16 n).wf = true) : ∃ m : Nat, n = (m : Int) ∧ m < 65536 := by
  have := bounds_u16 h
  exact ⟨n.toNat, by omega, by omega⟩
def fillN (k j : Nat) : List Nat := List.replicate j 118 ++ List.replicate (k - j) 0
theorem fill_set (k j : Nat) (h : j < k) : (fillN k j).set j 118 = fillN k (j + 1) := by
  unfold fillN
  rw [List.set_append_right _ _ (by simp), List.length_replicate, Nat.sub_self, show k - j = (k - (j + 1)) + 1 by omega, List.replicate_succ, List.set_cons_zero, List.replicate_succ', List.append_assoc]
  rfl
theorem fill_len (k j : Nat) (h : j ≤ k) : (fillN k j).length = k := by unfold fillN; rw [List.length_append, List.length_replicate, List.length_replicate]; omega
set_option maxRecDepth 20000 in
set_option maxHeartbeats 8000000 in
theorem walk (n : Nat) (w : World) (hn : n < 65536) (hLz : Lz w) : Calls Tryd.prog 12 #[.int .u16 (n : Int)] w fun e w' => e = .returned (.bool true) ∧ Below w.heap.size w w' := by
  have HZ := hide hLz
  clear hLz
  have hw : IntKind.i64.wrap (n : Int) = (n : Int) := by rw [IntKind.wrap_i64]; omega
  have hr : (n : Int).tmod 2300 = ((n % 2300 : Nat) : Int) := by rw [Int.tmod_eq_emod_of_nonneg (by omega)]; omega
  obtain ⟨k, hk⟩ : ∃ k, n % 2300 = k := ⟨_, rfl⟩
  have hk2 : k < 2300 := by omega
  rw [hk] at hr
  have hmk := run_make8 k (by omega) w
  have N0 := hide (show (w.alloc (.cells ((zeros k).map byteV).toArray 5)).heap[w.heap.size]? = some (.cells ((fillN k 0).map byteV).toArray 5 (0, 0)) from heap_new _ _)
  have B0 := hide (show Below w.heap.size w (w.alloc (.cells ((zeros k).map byteV).toArray 5)) from (Below.refl _ _).alloc (Nat.le_refl _) _)
  clear hk
  go_enter Tryd.func12, Tryd.ntmps12
  go_wp2_with fail
  generalize w.alloc (.cells ((zeros k).map byteV).toArray 5) = W0 at *
  go_loopw [5] (fun i wr => ∃ j : Nat, i = .int .i64 (j : Int) ∧ j ≤ k ∧ Hid (wr.heap[w.heap.size]? = some (.cells ((fillN k j).map byteV).toArray 5 (0, 0))) ∧ Hid (Below w.heap.size w wr)) (fun i _ => k - (intOf i).toNat)
  case atStart => exact ⟨0, rfl, by omega, N0, B0⟩
  case round =>
    obtain ⟨j, rfl, hj, N, B⟩ := hrel
    by_cases hjk : j < k
    · have c0 : wr.cell? ⟨w.heap.size, j, none⟩ = some (.int .u8 0) := by
        have e : (fillN k j)[j]? = some 0 := by
          unfold fillN
          rw [List.getElem?_append_right (by simp), List.length_replicate, Nat.sub_self, show k - j = (k - (j + 1)) + 1 by omega, List.replicate_succ]
          rfl
        rw [cell_of_row _ _ _ _ _ _ (unhide N), List.getElem?_toArray, List.getElem?_map, e]
        rfl
      have f0 : wr.frozen? ⟨w.heap.size, j, none⟩ = false := by simp [World.frozen?, unhide N]
      have q0 : (0 : Int) ≤ (j : Int) := by omega
      have q1 : (j : Int) < (k : Int) := by omega
      have q2 : IntKind.i64.wrap ((j : Int) + 1) = ((j + 1 : Nat) : Int) := by rw [IntKind.wrap_i64]; omega
      have N2 := hide (heap_set_row (unhide N) j 118)
      rw [fill_set k j hjk] at N2
      have B2 := hide ((unhide B).setCell (p := ⟨w.heap.size, j, none⟩) (Nat.le_refl _) (.int .u8 (118 : Nat)))
      go_wp2_with fail
      go_roundw
      case rel => exact ⟨j + 1, by first | rfl | (rw [q2]), by omega, N2, B2⟩
      case measure => simp [intOf]; omega
    · have hjk2 : j = k := by omega
      subst hjk2
      have q1 : ¬ (j : Int) < (j : Int) := by omega
      have hfl : fillN j j = List.replicate j 118 := by unfold fillN; rw [Nat.sub_self]; simp
      have hBy : BytesAt wr (some ⟨w.heap.size, 0, none⟩) (fillN j j) := bytesAt_block (unhide N) (fun c hc => by rw [hfl] at hc; rw [List.eq_of_mem_replicate hc]; decide)
      have hst := run_string8 (w := wr) j j (l := fillN j j) (fill_len j j (Nat.le_refl _)) hBy
      have hsv : strOf (fillN j j) = stS (vsL j) := by rw [strOf_tx, hfl]; unfold txN vsL; rw [List.map_replicate]; rfl
      rw [hsv] at hst
      have hz1 : (stS (vsL j)).size = j := by rw [stS_size]; exact List.length_replicate
      have hz0 : (⟨#[71, 69, 84, 32, 47, 32, 72, 84, 84, 80, 47, 49, 46, 49, 13, 10, 104, 111, 115, 116, 58, 32, 97, 13, 10, 120, 58, 32]⟩ : ByteArray).size = 28 := rfl
      have hz2 : ((⟨#[71, 69, 84, 32, 47, 32, 72, 84, 84, 80, 47, 49, 46, 49, 13, 10, 104, 111, 115, 116, 58, 32, 97, 13, 10, 120, 58, 32]⟩ : ByteArray) ++ stS (vsL j)).size = 28 + j := by rw [ByteArray.size_append, hz1, hz0]
      have hz3 : (((⟨#[71, 69, 84, 32, 47, 32, 72, 84, 84, 80, 47, 49, 46, 49, 13, 10, 104, 111, 115, 116, 58, 32, 97, 13, 10, 120, 58, 32]⟩ : ByteArray) ++ stS (vsL j)) ++ (⟨#[13, 10, 13, 10]⟩ : ByteArray)).size = 32 + j := by rw [ByteArray.size_append, hz2]; show 28 + j + 4 = _; omega
      have hsS : (((⟨#[71, 69, 84, 32, 47, 32, 72, 84, 84, 80, 47, 49, 46, 49, 13, 10, 104, 111, 115, 116, 58, 32, 97, 13, 10, 120, 58, 32]⟩ : ByteArray) ++ stS (vsL j)) ++ (⟨#[13, 10, 13, 10]⟩ : ByteArray)).data.toList = longIn j := by simp [longIn, stS, preL, crlf]
      obtain ⟨c, W7, hcv, hc7, hb7, hB7⟩ := conv_bytes wr (((⟨#[71, 69, 84, 32, 47, 32, 72, 84, 84, 80, 47, 49, 46, 49, 13, 10, 104, 111, 115, 116, 58, 32, 97, 13, 10, 120, 58, 32]⟩ : ByteArray) ++ stS (vsL j)) ++ (⟨#[13, 10, 13, 10]⟩ : ByteArray))
      have PC := hide (parseB_calls w W7 _ wr.heap.size c hc7 hb7 ((unhide HZ).later ((unhide B).trans (hB7.mono (unhide B).size))))
      have B7 := hide ((unhide B).trans (hB7.mono (unhide B).size))
      rw [hsS] at PC
      clear hb7 hB7 hBy hfl hsv hsS
      have LV := hide (show ∀ U, Below w.heap.size w U → Calls Tryd.prog 15 #[] U fun e w' => e = .returned (.bool true) ∧ Below U.heap.size U w' from fun U hb => live9_calls U ((unhide HZ).later hb))
      rw [hz3] at PC
      by_cases hbig : 2016 < j
      · have PB := hide (show Calls Tryd.prog 13 #[.slice (some ⟨wr.heap.size, 0, none⟩) (32 + j) c] W7 fun e w' => e = .returned (.tuple #[.agg #[.string ⟨#[]⟩, .string ⟨#[]⟩, .string ⟨#[]⟩, .string ⟨#[]⟩, .slice none 0 0], .int .i64 0, .int .i64 6]) ∧ Below W7.heap.size W7 w' from (unhide PC).mono fun e w' h => by
          obtain ⟨h1, h2⟩ := h
          unfold ParseRes at h1; rw [long_parse2 j hbig] at h1
          exact ⟨h1, h2⟩)
        have hl1 : (2048 : Int) < 32 + (j : Int) := by omega
        clear PC
        go_wp2_with (first
          | (go_at_call 13; refine (unhide PB).mono ?_; rintro e W8 ⟨rfl, hb8⟩; have B8 := hide (unhide (chain B7 hb8)); have B9 := hide ((unhide B8).alloc (unhide B8).size (.cells #[.string ⟨#[]⟩, .string ⟨#[]⟩, .string ⟨#[]⟩, .string ⟨#[]⟩, .slice none 0 0] 25)))
          | (go_at_call 15; refine (unhide LV _ (unhide B9)).mono ?_; rintro e W10 ⟨rfl, hb10⟩; have B10 := chain B9 hb10))
        go_ret
        exact ⟨rfl, unhide B10⟩
      · have PB := hide (show Calls Tryd.prog 13 #[.slice (some ⟨wr.heap.size, 0, none⟩) (32 + j) c] W7 fun e w' => (∃ sp cc, e = .returned (.tuple #[.agg #[.string (stS [71, 69, 84]), .string (stS [47]), .string (stS []), .string (stS [97]), .slice sp 2 cc], .int .i64 ((32 + j : Nat) : Int), .int .i64 0]) ∧ FdsAt w' sp [⟨[104, 111, 115, 116], [97]⟩, ⟨[120], vsL j⟩]) ∧ Below W7.heap.size W7 w' from (unhide PC).mono fun e w' h => by
          obtain ⟨h1, h2⟩ := h
          unfold ParseRes at h1; rw [long_parse1 j (by omega)] at h1
          obtain ⟨sp, cc, h3, h4, _⟩ := h1
          exact ⟨⟨sp, cc, h3, h4⟩, h2⟩)
        have hl1 : ¬ (2048 : Int) < 32 + (j : Int) := by omega
        clear PC
        go_wp2_with (first
          | (go_at_call 13; refine (unhide PB).mono ?_; rintro e W8 ⟨⟨sp, cc, rfl, hfd⟩, hb8⟩
             obtain ⟨b, off, rfl, p0, p1⟩ := hfd 1 (by simp)
             have B8 := hide (unhide (chain B7 hb8))
             have B9 := hide ((unhide B8).alloc (unhide B8).size (.cells #[.string (stS [71, 69, 84]), .string (stS [47]), .string (stS []), .string (stS [97]), .slice (some ⟨b, off, none⟩) 2 cc] 25))
             have N9 := hide (heap_new W8 (.cells #[.string (stS [71, 69, 84]), .string (stS [47]), .string (stS []), .string (stS [97]), .slice (some ⟨b, off, none⟩) 2 cc] 25))
             have P9 := hide (cell_later ((Below.refl _ _).alloc (Nat.le_refl _) (.cells #[.string (stS [71, 69, 84]), .string (stS [47]), .string (stS []), .string (stS [97]), .slice (some ⟨b, off, none⟩) 2 cc] 25)) p1)
             clear p0 p1 hfd hb8)
          | (go_at_call 15; refine (unhide LV _ (unhide B9)).mono ?_; rintro e W10 ⟨rfl, hb10⟩; have B10 := chain B9 hb10
             have c4 := box_cell (later_block hb10 (unhide N9)) 4 (.slice (some ⟨b, off, none⟩) 2 cc) rfl
             have p3 : W10.cell? ⟨b, off + 2 + 1, none⟩ = some (.string (stS (vsL j))) := cell_later hb10 (unhide P9)
             have p4 : W10.cell? ⟨b, off + 3, none⟩ = some (.string (stS (vsL j))) := p3
             clear hb10))
        go_ret
        exact ⟨rfl, unhide B10⟩

set_option maxRecDepth 100000 in
theorem lifted (os : Os) (started : os.Started) (H : Type) (enc : TypeId × Value → H) :
    ReturnsInHanded {} Tryd.checked os 12 .any (fun w args => (Rows.headLongSpec.pre enc Tryd.prog Tryd.f12 Rows.headLongRow.domain false w args ∧ laidMetH Tryd.prog Rows.headLongRow.laid w) ∧ sizedMet enc Tryd.prog Tryd.f12 (OpenSpec.ofChange Rows.headLongSpec) false w args)
      (Rows.headLongSpec.post enc Tryd.prog Tryd.f12 false true false false) := by
  refine handed_both (C := Tryd.checked) (X := fun w _ => laidMetH Tryd.prog Rows.headLongRow.laid w) (fun _ _ _ hh h => h.of_heap hh) own started (by kernel_rfl) Tryd.func12
    (ChangeSpec.witness_shaped (enc := enc) (C := Tryd.checked) (os := os) (X := fun w _ => laidMetH Tryd.prog Rows.headLongRow.laid w) false (World.laidAll Tryd.prog os Rows.headLongRow.laid) #[.int .u16 0] 8 (World.laidAll_os _ _ _)
      (World.shaped_of_ZipB (by kernel_rfl) (by kernel_rfl)) (by kernel_rfl) (by kernel_rfl) (by kernel_rfl)
      (by rw [MakeChecks.laidMetH_plain _ _ _ (by kernel_rfl)]; exact laidMet_laidAll _ (by kernel_rfl) (by kernel_rfl))) ?_
  intro W base args ds gs before hval0 hW hcnd hsz hL hsh _
  have hLz : Lz W := lz_of (by rw [MakeChecks.laidMetH_plain _ _ _ (by kernel_rfl)] at hL; exact hL) hsh
  have hval : ∀ (j : Nat) t v, Tryd.f12.params[j]? = some t → args[j]? = some v → Value.okWide Tryd.prog W .any base t v := hval0
  have hW' := hW
  obtain ⟨p, q, hA0, hV, rfl, hfz, hnd⟩ := hW
  have hA : DataW.TrodAll enc Tryd.prog W 0 (fun _ => true) true Tryd.f12.params.toList args.toList ds p := hA0
  rw [Tryd.params12] at hA hval
  obtain ⟨v0, vs0, d0, ds0, p0, q0, hargs, rfl, rfl, h0, r0⟩ := trodAll_cons hA
  obtain ⟨rfl, rfl, rfl⟩ := trodAll_nil r0
  obtain rfl : args = #[v0] := by cases args; simp_all
  obtain ⟨rfl, rfl⟩ := trodVars_none hV
  obtain ⟨n0, rfl, rfl, rfl, w0⟩ := open_int Tryd.underlying52 (hval 0 52 v0 rfl rfl) h0
  obtain ⟨n0, rfl, hn0⟩ := u16_nat w0
  clear hA0 hval0
  refine (walk n0 W hn0 hLz).mono fun e W' ⟨he, bel⟩ => ?_
  subst he
  exact ⟨_, rfl, _, _, _, [], _, [], hW', trodAll_mk1 (shut_bool Tryd.underlying4 _), (trodAll_cons_mk (shut_int Tryd.underlying52 w0) trodAll_mk0), rfl, bel.frame _, fun h => by cases h⟩

theorem proved : Rows.HeadLongSaid :=
  OpenClaim.holds_of_wide 12 Tryd.f12 rfl rfl rfl rfl rfl rfl rfl ⟨rfl, rfl, rfl, rfl, rfl⟩ rfl rfl rfl rfl rfl (by kernel_rfl) Tryd.func12 (by kernel_rfl)
    (of_decide_eq_true (by kernel_rfl)) (by unfold Func.isWrapper; first | (rw [if_pos (by decide +kernel)]; kernel_rfl) | (rw [if_neg (by decide +kernel)]; exact ⟨rfl, rfl⟩))
    (fun os started H enc _ => lifted os started H enc)
theorem card : Rows.HeadLongCardSaid :=
  Claim7.holds_tied_plain_at .later [] [.data, .pinned, .pinned] true (true, "2cf869cf5398f97f81daaceca3590596dba7a7a0c92dd152567cde0423139ccb") false proved (fun _ h => by cases h) (by kernel_rfl) (fun _ h => by cases h) headLong_row_tie rfl ⟨rfl, rfl⟩ (by kernel_rfl) rfl
    (fun f fn hf hfn => by
      obtain rfl : f = 12 := Option.some.inj ((show Tryd.prog.funcNamed "tollgate/tollgatelaw09.HeadLong" = some 12 by kernel_rfl).symm.trans hf) |>.symm
      obtain rfl : fn = Tryd.f12 := (Option.some.inj (Tryd.func12.symm.trans hfn)).symm
      exact ⟨by kernel_rfl, fun j t ht => by
        rw [Tryd.params12] at ht
        have hm : t ∈ [52] := by simpa using Array.mem_of_getElem? ht
        have hall : ([52].all fun u => !Tryd.prog.wantsStandIn u) = true := by kernel_rfl
        exact (show Tryd.prog.wantsStandIn t = false by simpa using List.all_eq_true.1 hall t hm)⟩)
    (by kernel_rfl)
end Go.Proofs.YtalacoebbbcboaaDoor.headLong
namespace Go.Proofs.YtalacoebbbcboaaDoor
theorem headLong_holds : Rows.HeadLongCardSaid := headLong.card
#print axioms headLong_holds
end Go.Proofs.YtalacoebbbcboaaDoor
