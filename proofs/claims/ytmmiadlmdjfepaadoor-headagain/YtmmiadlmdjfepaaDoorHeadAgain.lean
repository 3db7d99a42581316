/- What is parsed is written, and parsed again as the same, if its host is that of its field, and there is room: tollgatelaw09.HeadAgain answers true, for all bytes. No condition. The tables of the library's are as the card ties them (lz_of). -/
import Derived.Test.YtmmiadlmdjfepaaDoorHdu
import Derived.Test.YtmmiadlmdjfepaaDoorHdr
import Derived.Test.YtmmiadlmdjfepaaDoorHdv
import Derived.Test.YtmmiadlmdjfepaaDoorLzw
import Derived.Test.YtmmiadlmdjfepaaDoorTie
import Derived.Test.YtmmiadlmdjfepaaDoorCards
import Derived.Lay
import Derived.MakeChecks
import Derived.SevenTiedAt
import Derived.Stop.Joined
namespace Go.Proofs.YtmmiadlmdjfepaaDoor.headAgain
open Go.ChangeShapes Go.WideShapes Go.ChangeAt Go.RowKit
set_option linter.unusedVariables false

theorem own : ownKnob Tryd.prog.godebug = none := by kernel_rfl
theorem laidOut : laidOutB Tryd.prog = true := by kernel_rfl

theorem one_host {l : List Fd} {x : Tx} (h : hostOfL l = some x) : (∃ f ∈ l, f.name = hostName) ∧ ∀ f ∈ l, f.name = hostName → hostL f.value = some x := by
  unfold hostOfL at h
  split at h
  · rename_i f hf
    have hm : f ∈ hostsOf l := by rw [hf]; simp
    refine ⟨⟨f, (List.mem_filter.1 hm).1, eq_of_beq (List.mem_filter.1 hm).2⟩, fun g hg hn => ?_⟩
    have : g ∈ hostsOf l := List.mem_filter.2 ⟨hg, by rw [hn]; exact beq_self_eq_true _⟩
    rw [hf, List.mem_singleton] at this
    rw [this]; exact h
  · cases h
set_option maxRecDepth 20000 in
set_option maxHeartbeats 8000000 in
theorem other_calls (h : Hd) (sp : Option Addr) (c : Nat) (x : Tx) (w : World) (hF : FdsAt w sp h.fields) (hl : HdLe 4096 h) (hx : hostOfL h.fields = some x) (hne : ¬ x = h.host) :
    Calls Tryd.prog 18 #[hdVal h sp c] w fun e w' => e = .returned (.bool true) ∧ Below w.heap.size w w' := by
  obtain ⟨h1, h2⟩ := one_host hx
  have HX := hide h2
  have HE := hide h1
  have hlx := hl.x
  have hlf := hl.f.1
  have HZ := hide hl.f.2
  have HF := hide hF
  have hxl := hostOf_len hx
  have hq := str_eqL x h.host
  rw [beq_eq_false_iff_ne.2 hne] at hq
  clear hF hl hx hne h1 h2
  unfold hdVal
  obtain ⟨m, p, q, ho, fs⟩ := h
  simp only at *
  have hs1 : (stS x).size ≤ 9223372036854775807 := by rw [stS_size]; omega
  have hs2 : (stS ho).size ≤ 9223372036854775807 := by rw [stS_size]; omega
  have B1 := hide (show Below w.heap.size w (w.alloc (.cells #[.string (stS m), .string (stS p), .string (stS q), .string (stS ho), .slice sp fs.length c] 25)) from (Below.refl _ _).alloc (Nat.le_refl _) _)
  have X1 := hide (heap_new w (.cells #[.string (stS m), .string (stS p), .string (stS q), .string (stS ho), .slice sp fs.length c] 25))
  have k3 := box_cell (unhide X1) 3 _ rfl
  have k4 := box_cell (unhide X1) 4 _ rfl
  generalize hn : fs.length = n at *
  have HN := hide hn
  clear hn
  go_enter Tryd.func18, Tryd.ntmps18
  go_wp2_with fail
  generalize w.alloc (.cells #[.string (stS m), .string (stS p), .string (stS q), .string (stS ho), .slice sp n c] 25) = WA at *
  go_loopw [3] (fun i wr => ∃ j : Nat, j ≤ n ∧ i = .int .i64 (j : Int) ∧ Hid (∀ f ∈ fs.take j, f.name ≠ hostName) ∧ Hid (Below WA.heap.size WA wr)) (fun i _ => n - (intOf i).toNat)
  case atStart => exact ⟨0, by omega, rfl, hide (by simp), hide (Below.refl _ _)⟩
  case round =>
    obtain ⟨j, hj, rfl, HA, B⟩ := hrel
    have F := hide ((unhide B1).trans ((unhide B).mono (unhide B1).size))
    have p3 := cell_later (unhide B) k3
    have p4 := cell_later (unhide B) k4
    by_cases hjn : j < n
    · have y0 : (0 : Int) ≤ (j : Int) := by omega
      have y1 : (j : Int) < (n : Int) := by omega
      have hjl : j < fs.length := by rw [unhide HN]; exact hjn
      obtain ⟨g1, o1, rfl, q0, q1⟩ := unhide HF j hjl
      have r0 := cell_later (unhide F) q0
      have r1 := cell_later (unhide F) q1
      have hz := unhide HZ _ (List.getElem_mem hjl)
      have HS := hide (show fs[j].name ≠ hostName → ∀ f ∈ fs.take (j + 1), f.name ≠ hostName from fun e f hf => by
        rw [List.take_add_one, List.getElem?_eq_getElem hjl, Option.toList_some] at hf
        rcases List.mem_append.1 hf with hf | hf
        · exact unhide HA f hf
        · rw [List.mem_singleton.1 hf]; exact e)
      have HV := hide (show fs[j].name = hostName → hostL fs[j].value = some x from fun e => unhide HX _ (List.getElem_mem hjl) e)
      have hw : IntKind.i64.wrap ((j : Int) + 1) = ((j + 1 : Nat) : Int) := by rw [IntKind.wrap_i64]; omega
      clear q0 q1
      generalize fs[j] = t at *
      obtain ⟨tn, tv⟩ := t
      simp only at r0 r1 hz HS HV
      obtain ⟨hz1, hz2⟩ := hz
      have he := host_eq (stS tn)
      rw [stS_list] at he
      have hsn : (stS tn).size ≤ 9223372036854775807 := by rw [stS_size]; omega
      cases hh : (tn == hostName) with
      | true =>
        rw [hh] at he
        have HC := hide (fun W => host_calls (stS tv) (by rw [stS_size]; simp only [maxLen]; omega) W)
        rw [stS_list, show hostV tv = .tuple #[.string (stS x), .bool true] by unfold hostV; rw [unhide HV (eq_of_beq hh)]] at HC
        clear hh HS HV
        go_wp2_with (go_at_call 16; refine (unhide HC _).mono ?_; rintro e W1 ⟨rfl, hb1⟩; have H1 := chain F hb1; have p3b := cell_later hb1 p3)
        go_ret
        exact ⟨rfl, unhide H1⟩
      | false =>
        rw [hh] at he
        have HS2 := hide (unhide HS (fun e => by rw [e] at hh; cases hh))
        clear hh HS HV
        go_wp2
        go_roundw
        case rel => exact ⟨j + 1, by omega, by first | rfl | (rw [hw]), HS2, B⟩
        case measure => simp [intOf]; omega
    · exact absurd (unhide HE) (fun ⟨f, hf, hn⟩ => unhide HA f (by rw [List.take_of_length_le (by rw [unhide HN]; omega)]; exact hf) hn)
theorem got_ok {t : Tx} {h : Hd} {k : Nat} {e : Ending} {W : World} (hp : parseL t = .ok h k) (hr : ParseRes t e W) : ∃ sp cc, e = .returned (.tuple #[.agg #[.string (stS h.method), .string (stS h.path), .string (stS h.query), .string (stS h.host), .slice sp h.fields.length cc], .int .i64 (k : Int), .int .i64 0]) ∧ FdsAt W sp h.fields := by
  unfold ParseRes at hr
  rw [hp] at hr
  obtain ⟨sp, cc, h1, h2, _⟩ := hr
  exact ⟨sp, cc, h1, h2⟩
theorem got_bad {t : Tx} {n : Nat} {e : Ending} {W : World} (hp : parseL t = .bad n) (hr : ParseRes t e W) : e = .returned (.tuple #[.agg #[.string ⟨#[]⟩, .string ⟨#[]⟩, .string ⟨#[]⟩, .string ⟨#[]⟩, .slice none 0 0], .int .i64 0, .int .i64 (n : Int)]) := by
  unfold ParseRes at hr
  rw [hp] at hr
  exact hr
def h0 : Hd := ⟨[], [], [], [], []⟩
theorem zero_fds (W : World) : FdsAt W none h0.fields := fun i hi => by simp [h0] at hi
theorem wr47 {h : Hd} (hl : HdLe 4096 h) : h.fields.length ≤ 32 → (writtenL h).length ≤ 140737488355328 := fun hk => by
  have := written_bound hl 32 hk
  omega
set_option maxRecDepth 20000 in
set_option maxHeartbeats 8000000 in
theorem walk (a0 : Option Addr) (c0 : Nat) (l0 : List Nat) (w : World) (hc0 : l0.length ≤ c0) (hm0 : c0 ≤ 140737488355328) (hb0 : BytesAt w a0 l0) (hz0 : a0 = none → c0 = 0) (hLz : Lz w) :
    Calls Tryd.prog 6 #[.slice a0 l0.length c0] w fun e w' => e = .returned (.bool true) ∧ Below w.heap.size w w' := by
  have LV := hide (show ∀ U, Below w.heap.size w U → Calls Tryd.prog 12 #[] U fun e w' => e = .returned (.bool true) ∧ Below U.heap.size U w' from fun U hb => live9_calls U (hLz.later hb))
  have PC := hide (parse_calls a0 l0.length c0 l0 w rfl hc0 hb0 hz0 hLz)
  have HL := hide (show ∀ U, Below w.heap.size w U → Lz U from fun U hu => hLz.later hu)
  have B0 := hide (Below.refl w.heap.size w)
  cases hp : parseL (txN l0) with
  | bad n =>
    have hn := parse_bad_is hp
    have PE := hide hp
    have SC := hide (show ∀ U, Calls Tryd.prog 13 #[.agg #[.string ⟨#[]⟩, .string ⟨#[]⟩, .string ⟨#[]⟩, .string ⟨#[]⟩, .slice none 0 0], .agg #[.string ⟨#[]⟩, .string ⟨#[]⟩, .string ⟨#[]⟩, .string ⟨#[]⟩, .slice none 0 0]] U fun e w' => e = .returned (.bool true) ∧ Below U.heap.size U w' from fun U => sameH_calls (w := U) (h := h0) 0 0 (zero_fds U) (zero_fds U) ⟨by simp [h0], by simp [h0], by simp [h0], by simp [h0], by simp [h0], by simp [h0]⟩)
    clear hp hb0 hz0 hLz
    rcases hn with rfl | rfl | rfl
    all_goals
      go_enter Tryd.func6, Tryd.ntmps6
      go_wp2_with (first
        | (go_at_call 10; refine (unhide PC).mono ?_; rintro e W4 ⟨he4, hb4⟩
           obtain rfl : e = _ := got_bad (unhide PE) he4
           have H5 := chain B0 hb4
           have H6 := hide ((unhide H5).alloc (unhide H5).size (.cells #[.string ⟨#[]⟩, .string ⟨#[]⟩, .string ⟨#[]⟩, .string ⟨#[]⟩, .slice none 0 0] 25))
           have X6 := heap_new W4 (.cells #[.string ⟨#[]⟩, .string ⟨#[]⟩, .string ⟨#[]⟩, .string ⟨#[]⟩, .slice none 0 0] 25)
           have p0 := box_cell X6 0 _ rfl
           have p1 := box_cell X6 1 _ rfl
           have p2 := box_cell X6 2 _ rfl
           have p3 := box_cell X6 3 _ rfl
           have p4 := box_cell X6 4 _ rfl
           clear he4 hb4 X6)
        | (go_at_call 12; refine (unhide LV _ (unhide H6)).mono ?_; rintro e W5 ⟨rfl, hb5⟩; have H7 := chain H6 hb5
           have r0 := cell_later hb5 p0
           have r1 := cell_later hb5 p1
           have r2 := cell_later hb5 p2
           have r3 := cell_later hb5 p3
           have r4 := cell_later hb5 p4
           clear hb5)
        | (go_at_call 13; refine (unhide SC _).mono ?_; rintro e W6 ⟨rfl, hb6⟩; have H8 := chain H7 hb6))
      go_ret
      exact ⟨rfl, unhide H8⟩
  | ok h k =>
    obtain ⟨hk1, hk2, hk3, hk4, _⟩ := parse_ok hp
    have hle := parse_le hp
    rw [txN_len] at hk2
    have PE := hide hp
    have q1 : ¬ (k : Int) < 4 := by omega
    have q2 : ¬ (l0.length : Int) < (k : Int) := by omega
    have q3 : ¬ (2048 : Int) < (k : Int) := by omega
    have WC := hide (fun U sp c (hu : FdsAt U sp h.fields) => write_calls h sp c U hu (hle.mono (by decide)) (wr47 hle))
    have AB := hide (show ∀ n, writeL h = .bad n → n = 6 ∨ (n = 4 ∧ ∃ x, hostOfL h.fields = some x ∧ ¬ x = h.host) from fun n hw => again_bad hp hw)
    have OC := hide (show ∀ x, hostOfL h.fields = some x → ¬ x = h.host → ∀ U sp c, FdsAt U sp h.fields → Calls Tryd.prog 18 #[hdVal h sp c] U fun e w' => e = .returned (.bool true) ∧ Below U.heap.size U w' from fun x hx hn U sp c hF => other_calls h sp c x U hF hle hx hn)
    have SC := hide (show ∀ U sp c sp' c', FdsAt U sp h.fields → FdsAt U sp' h.fields → Calls Tryd.prog 13 #[hdVal h sp c, hdVal h sp' c'] U fun e w' => e = .returned (.bool true) ∧ Below U.heap.size U w' from fun U sp c sp' c' h1 h2 => sameH_calls c c' h1 h2 (hle.mono (by decide)))
    clear hp hb0 hz0 hLz hle hk1 hk2 hk3 hk4
    unfold hdVal at WC OC SC
    generalize l0.length = n0 at *
    cases hw : writeL h with
    | bad n =>
      have WE := hide (show ∀ B e W, WriteEnd h B e W → e = .returned (.tuple #[.slice none 0 0, .int .i64 (n : Int)]) from fun B e W hh => by unfold WriteEnd at hh; rw [hw] at hh; exact hh)
      rcases unhide AB n hw with rfl | ⟨rfl, x, hx, hne⟩
      · clear hw OC SC AB
        go_enter Tryd.func6, Tryd.ntmps6
        go_wp2_with (first
          | (go_at_call 10; refine (unhide PC).mono ?_; rintro e W4 ⟨he4, hb4⟩
             obtain ⟨sp4, cc4, rfl, hf4⟩ := got_ok (unhide PE) he4
             have H5 := chain B0 hb4
             have H6 := hide ((unhide H5).alloc (unhide H5).size (.cells #[.string (stS h.method), .string (stS h.path), .string (stS h.query), .string (stS h.host), .slice sp4 h.fields.length cc4] 25))
             have F6 := hide (hf4.later ((Below.refl W4.heap.size W4).alloc (Nat.le_refl _) (.cells #[.string (stS h.method), .string (stS h.path), .string (stS h.query), .string (stS h.host), .slice sp4 h.fields.length cc4] 25)))
             have X6 := heap_new W4 (.cells #[.string (stS h.method), .string (stS h.path), .string (stS h.query), .string (stS h.host), .slice sp4 h.fields.length cc4] 25)
             have p0 := box_cell X6 0 _ rfl
             have p1 := box_cell X6 1 _ rfl
             have p2 := box_cell X6 2 _ rfl
             have p3 := box_cell X6 3 _ rfl
             have p4 := box_cell X6 4 _ rfl
             clear he4 hb4 hf4 X6)
          | (go_at_call 14; refine (unhide WC _ _ _ (unhide F6)).mono ?_; rintro e W5 ⟨he5, hb5⟩
             obtain rfl := unhide WE _ _ _ he5
             have H7 := chain H6 hb5
             clear he5)
          | (go_at_call 12; refine (unhide LV _ (unhide H7)).mono ?_; rintro e W6 ⟨rfl, hb6⟩; have H8 := chain H7 hb6))
        go_ret
        exact ⟨rfl, unhide H8⟩
      · have OC2 := hide (unhide OC x hx hne)
        clear hw hx hne OC SC AB
        go_enter Tryd.func6, Tryd.ntmps6
        go_wp2_with (first
          | (go_at_call 10; refine (unhide PC).mono ?_; rintro e W4 ⟨he4, hb4⟩
             obtain ⟨sp4, cc4, rfl, hf4⟩ := got_ok (unhide PE) he4
             have H5 := chain B0 hb4
             have H6 := hide ((unhide H5).alloc (unhide H5).size (.cells #[.string (stS h.method), .string (stS h.path), .string (stS h.query), .string (stS h.host), .slice sp4 h.fields.length cc4] 25))
             have F6 := hide (hf4.later ((Below.refl W4.heap.size W4).alloc (Nat.le_refl _) (.cells #[.string (stS h.method), .string (stS h.path), .string (stS h.query), .string (stS h.host), .slice sp4 h.fields.length cc4] 25)))
             have X6 := heap_new W4 (.cells #[.string (stS h.method), .string (stS h.path), .string (stS h.query), .string (stS h.host), .slice sp4 h.fields.length cc4] 25)
             have p0 := box_cell X6 0 _ rfl
             have p1 := box_cell X6 1 _ rfl
             have p2 := box_cell X6 2 _ rfl
             have p3 := box_cell X6 3 _ rfl
             have p4 := box_cell X6 4 _ rfl
             clear he4 hb4 hf4 X6)
          | (go_at_call 14; refine (unhide WC _ _ _ (unhide F6)).mono ?_; rintro e W5 ⟨he5, hb5⟩
             obtain rfl := unhide WE _ _ _ he5
             have H7 := chain H6 hb5
             have F7 := hide ((unhide F6).later hb5)
             have r0 := cell_later hb5 p0
             have r1 := cell_later hb5 p1
             have r2 := cell_later hb5 p2
             have r3 := cell_later hb5 p3
             have r4 := cell_later hb5 p4
             clear he5 hb5)
          | (go_at_call 12; refine (unhide LV _ (unhide H7)).mono ?_; rintro e W6 ⟨rfl, hb6⟩; have H8 := chain H7 hb6
             have F8 := hide ((unhide F7).later hb6)
             have u0 := cell_later hb6 r0
             have u1 := cell_later hb6 r1
             have u2 := cell_later hb6 r2
             have u3 := cell_later hb6 r3
             have u4 := cell_later hb6 r4)
          | (go_at_call 18; refine (unhide OC2 _ _ _ (unhide F8)).mono ?_; rintro e W7 ⟨rfl, hb7⟩; have H9 := chain H8 hb7))
        go_ret
        exact ⟨rfl, unhide H9⟩
    | ok b =>
      have WE := hide (show ∀ B e W, WriteEnd h B e W → ∃ g q, e = .returned (.tuple #[.slice (some ⟨g, 0, none⟩) b.length q, .int .i64 0]) ∧ BytesAt W (some ⟨g, 0, none⟩) (numsT b) ∧ b.length ≤ q from fun B e W hh => by
        unfold WriteEnd at hh; rw [hw] at hh
        obtain ⟨g, q, h1, h2⟩ := hh
        exact ⟨g, q, h1, h2.bytes, by have := h2.le; rwa [numsT_len] at this⟩)
      have PB := hide (show parseL b = .ok h b.length by have := write_back hw []; rwa [List.append_nil] at this)
      have PC2 := hide (show ∀ U g q, Below w.heap.size w U → BytesAt U (some ⟨g, 0, none⟩) (numsT b) → b.length ≤ q → Calls Tryd.prog 10 #[.slice (some ⟨g, 0, none⟩) b.length q] U fun e w' => ParseRes b e w' ∧ Below U.heap.size U w' from fun U g q hu hb hq => by
        have := parse_calls (some ⟨g, 0, none⟩) b.length q (numsT b) U (numsT_len b) hq hb (fun e => by cases e) (unhide HL U hu)
        rwa [numsT_tx] at this)
      clear hw OC AB
      generalize b.length = nb at *
      go_enter Tryd.func6, Tryd.ntmps6
      go_wp2_with fail
      refine (unhide PC).mono ?_
      rintro e W4 ⟨he4, hb4⟩
      obtain ⟨sp4, cc4, rfl, hf4⟩ := got_ok (unhide PE) he4
      have H5 := chain B0 hb4
      have H6 := hide ((unhide H5).alloc (unhide H5).size (.cells #[.string (stS h.method), .string (stS h.path), .string (stS h.query), .string (stS h.host), .slice sp4 h.fields.length cc4] 25))
      have F6 := hide (hf4.later ((Below.refl W4.heap.size W4).alloc (Nat.le_refl _) (.cells #[.string (stS h.method), .string (stS h.path), .string (stS h.query), .string (stS h.host), .slice sp4 h.fields.length cc4] 25)))
      have X6 := heap_new W4 (.cells #[.string (stS h.method), .string (stS h.path), .string (stS h.query), .string (stS h.host), .slice sp4 h.fields.length cc4] 25)
      have p0 := box_cell X6 0 _ rfl
      have p1 := box_cell X6 1 _ rfl
      have p2 := box_cell X6 2 _ rfl
      have p3 := box_cell X6 3 _ rfl
      have p4 := box_cell X6 4 _ rfl
      clear he4 hb4 hf4 X6
      go_wp2_with fail
      refine (unhide WC _ _ _ (unhide F6)).mono ?_
      rintro e W5 ⟨he5, hb5⟩
      obtain ⟨g5, q5, rfl, y5, l5⟩ := unhide WE _ _ _ he5
      have H7 := chain H6 hb5
      have F7 := hide ((unhide F6).later hb5)
      have r0 := cell_later hb5 p0
      have r1 := cell_later hb5 p1
      have r2 := cell_later hb5 p2
      have r3 := cell_later hb5 p3
      have r4 := cell_later hb5 p4
      have PC3 := hide (unhide PC2 _ _ _ (unhide H7) y5 l5)
      clear he5 hb5 p0 p1 p2 p3 p4 y5
      go_wp2_with fail
      refine (unhide PC3).mono ?_
      rintro e W6 ⟨he6, hb6⟩
      obtain ⟨sp6, cc6, rfl, hf6⟩ := got_ok (unhide PB) he6
      have H8 := chain H7 hb6
      have H9 := hide ((unhide H8).alloc (unhide H8).size (.cells #[.string (stS h.method), .string (stS h.path), .string (stS h.query), .string (stS h.host), .slice sp6 h.fields.length cc6] 25))
      have b9 : Below W6.heap.size W6 (W6.alloc (.cells #[.string (stS h.method), .string (stS h.path), .string (stS h.query), .string (stS h.host), .slice sp6 h.fields.length cc6] 25)) := (Below.refl W6.heap.size W6).alloc (Nat.le_refl _) _
      have F9 := hide (hf6.later b9)
      have G9 := hide (((unhide F7).later hb6).later b9)
      have X9 := heap_new W6 (.cells #[.string (stS h.method), .string (stS h.path), .string (stS h.query), .string (stS h.host), .slice sp6 h.fields.length cc6] 25)
      have s0 := cell_later b9 (cell_later hb6 r0)
      have s1 := cell_later b9 (cell_later hb6 r1)
      have s2 := cell_later b9 (cell_later hb6 r2)
      have s3 := cell_later b9 (cell_later hb6 r3)
      have s4 := cell_later b9 (cell_later hb6 r4)
      have t0 := box_cell X9 0 _ rfl
      have t1 := box_cell X9 1 _ rfl
      have t2 := box_cell X9 2 _ rfl
      have t3 := box_cell X9 3 _ rfl
      have t4 := box_cell X9 4 _ rfl
      clear he6 hb6 hf6 X9 b9 r0 r1 r2 r3 r4
      go_wp2_with fail
      refine (unhide LV _ (unhide H9)).mono ?_
      rintro e W7 ⟨rfl, hb7⟩
      have H10 := chain H9 hb7
      have F10 := hide ((unhide F9).later hb7)
      have G10 := hide ((unhide G9).later hb7)
      have v0 := cell_later hb7 s0
      have v1 := cell_later hb7 s1
      have v2 := cell_later hb7 s2
      have v3 := cell_later hb7 s3
      have v4 := cell_later hb7 s4
      have z0 := cell_later hb7 t0
      have z1 := cell_later hb7 t1
      have z2 := cell_later hb7 t2
      have z3 := cell_later hb7 t3
      have z4 := cell_later hb7 t4
      clear s0 s1 s2 s3 s4 t0 t1 t2 t3 t4 hb7
      go_wp2_with fail
      refine (unhide SC _ _ _ _ _ (unhide F10) (unhide G10)).mono ?_
      rintro e W8 ⟨rfl, hb8⟩
      have H11 := chain H10 hb8
      go_wp2
      go_ret
      exact ⟨rfl, unhide H11⟩

set_option maxRecDepth 100000 in
theorem lifted (os : Os) (started : os.Started) (H : Type) (enc : TypeId × Value → H) :
    ReturnsInHanded {} Tryd.checked os 6 .any (fun w args => (Rows.headAgainSpec.pre enc Tryd.prog Tryd.f6 Rows.headAgainRow.domain false w args ∧ laidMetH Tryd.prog Rows.headAgainRow.laid w) ∧ sizedMet enc Tryd.prog Tryd.f6 (OpenSpec.ofChange Rows.headAgainSpec) false w args)
      (Rows.headAgainSpec.post enc Tryd.prog Tryd.f6 false true false false) := by
  refine handed_both (C := Tryd.checked) (X := fun w _ => laidMetH Tryd.prog Rows.headAgainRow.laid w) (fun _ _ _ hh h => h.of_heap hh) own started (by kernel_rfl) Tryd.func6
    (ChangeSpec.witness_shaped (enc := enc) (C := Tryd.checked) (os := os) (X := fun w _ => laidMetH Tryd.prog Rows.headAgainRow.laid w) false (World.laidAll Tryd.prog os Rows.headAgainRow.laid) #[.slice none 0 0] 8 (World.laidAll_os _ _ _)
      (World.shaped_of_ZipB (by kernel_rfl) (by kernel_rfl)) (by kernel_rfl) (by kernel_rfl) (by kernel_rfl)
      (by rw [MakeChecks.laidMetH_plain _ _ _ (by kernel_rfl)]; exact laidMet_laidAll _ (by kernel_rfl) (by kernel_rfl))) ?_
  intro W base args ds gs before hval0 hW hcnd hsz hL hsh _
  have hLz : Lz W := lz_of (by rw [MakeChecks.laidMetH_plain _ _ _ (by kernel_rfl)] at hL; exact hL) hsh
  have hval : ∀ (j : Nat) t v, Tryd.f6.params[j]? = some t → args[j]? = some v → Value.okWide Tryd.prog W .any base t v := hval0
  have hW' := hW
  obtain ⟨p, q, hA0, hV, rfl, hfz, hnd⟩ := hW
  have hA : DataW.TrodAll enc Tryd.prog W 0 (fun _ => true) true Tryd.f6.params.toList args.toList ds p := hA0
  rw [Tryd.params6] at hA hval
  obtain ⟨v0, vs0, d0, ds0, p0, q0, hargs, rfl, rfl, h0, r0⟩ := trodAll_cons hA
  obtain ⟨rfl, rfl, rfl⟩ := trodAll_nil r0
  obtain rfl : args = #[v0] := by cases args; simp_all
  obtain ⟨rfl, rfl⟩ := trodVars_none hV
  obtain ⟨a0, len0, c0, rfl⟩ := okWide_slice Tryd.underlying22 (hval 0 22 v0 rfl rfl)
  have k0 := h0
  have lt0 : ∀ x ∈ p0, x.block < W.heap.size := by obtain ⟨m, hm⟩ := k0; exact DataW.trod_lt m _ _ _ hm
  obtain ⟨l0, rfl, hc0, hx0, hb0, hz0, hr0⟩ := row8 h0
  clear hA0 hval0
  have hm0 : c0 ≤ 140737488355328 := reach8 hsz (j := 0) (d := d0) rfl rfl hr0
  refine (walk a0 c0 l0 W hc0 hm0 hb0 hz0 hLz).mono fun e W' ⟨he, bel⟩ => ?_
  subst he
  exact ⟨_, rfl, _, _, _, [], _, [], hW', trodAll_mk1 (shut_bool Tryd.underlying4 _), (trodAll_cons_mk (Below.trod laidOut (by kernel_rfl) (of_decide_eq_true (by kernel_rfl)) k0 bel lt0) trodAll_mk0), rfl, bel.frame _, fun h => by cases h⟩

theorem proved : Rows.HeadAgainSaid :=
  OpenClaim.holds_of_wide 6 Tryd.f6 rfl rfl rfl rfl rfl rfl rfl ⟨rfl, rfl, rfl, rfl, rfl⟩ rfl rfl rfl rfl rfl (by kernel_rfl) Tryd.func6 (by kernel_rfl)
    (of_decide_eq_true (by kernel_rfl)) (by unfold Func.isWrapper; first | (rw [if_pos (by decide +kernel)]; kernel_rfl) | (rw [if_neg (by decide +kernel)]; exact ⟨rfl, rfl⟩))
    (fun os started H enc _ => lifted os started H enc)
theorem card : Rows.HeadAgainCardSaid :=
  Claim7.holds_tied_plain_at .later [] [.data, .pinned, .pinned] true (true, "751a8e46b2fe3491d32f44b17778bde18806f999503f591f6324dd31d7eb6dd5") false proved (fun _ h => by cases h) (by kernel_rfl) (fun _ h => by cases h) headAgain_row_tie rfl ⟨rfl, rfl⟩ (by kernel_rfl) rfl
    (fun f fn hf hfn => by
      obtain rfl : f = 6 := Option.some.inj ((show Tryd.prog.funcNamed "tollgate/tollgatelaw09.HeadAgain" = some 6 by kernel_rfl).symm.trans hf) |>.symm
      obtain rfl : fn = Tryd.f6 := (Option.some.inj (Tryd.func6.symm.trans hfn)).symm
      exact ⟨by kernel_rfl, fun j t ht => by
        rw [Tryd.params6] at ht
        have hm : t ∈ [22] := by simpa using Array.mem_of_getElem? ht
        have hall : ([22].all fun u => !Tryd.prog.wantsStandIn u) = true := by kernel_rfl
        exact (show Tryd.prog.wantsStandIn t = false by simpa using List.all_eq_true.1 hall t hm)⟩)
    (by kernel_rfl)
end Go.Proofs.YtmmiadlmdjfepaaDoor.headAgain
namespace Go.Proofs.YtmmiadlmdjfepaaDoor
theorem headAgain_holds : Rows.HeadAgainCardSaid := headAgain.card
#print axioms headAgain_holds
end Go.Proofs.YtmmiadlmdjfepaaDoor
