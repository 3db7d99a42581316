/- The document's heads: Write. -/
import Derived.Test.YtmmiadlmdjfepaaDoorHw1
import Derived.BigQuiet
namespace Go.Proofs.YtmmiadlmdjfepaaDoor
open Go.ChangeShapes Go.WideShapes Go.ChangeAt Go.RowKit
set_option linter.unusedVariables false

theorem firstT0 (m p : Tx) : (stS m ++ (⟨#[32]⟩ : ByteArray)) ++ stS p = stS (m ++ 32 :: p) := by
  rw [show (⟨#[32]⟩ : ByteArray) = stS [32] from rfl, stS_app, stS_app]; simp
theorem firstT1 (a q : Tx) : stS a ++ ((⟨#[63]⟩ : ByteArray) ++ stS q) = stS (a ++ 63 :: q) := by
  rw [show (⟨#[63]⟩ : ByteArray) = stS [63] from rfl, stS_app, stS_app]; simp
theorem firstT2 (a : Tx) : stS a ++ (⟨#[32, 72, 84, 84, 80, 47, 49, 46, 49, 13, 10]⟩ : ByteArray) = stS (a ++ 32 :: (versionL ++ crlf)) := by
  rw [show (⟨#[32, 72, 84, 84, 80, 47, 49, 46, 49, 13, 10]⟩ : ByteArray) = stS (32 :: (versionL ++ crlf)) from rfl, stS_app]
theorem lineT (a n v : Tx) : stS a ++ (((stS n ++ (⟨#[58, 32]⟩ : ByteArray)) ++ stS v) ++ (⟨#[13, 10]⟩ : ByteArray)) = stS (a ++ (lineF ⟨n, v⟩ ++ crlf)) := by
  rw [show (⟨#[58, 32]⟩ : ByteArray) = stS [58, 32] from rfl, show (⟨#[13, 10]⟩ : ByteArray) = stS crlf from rfl, stS_app, stS_app, stS_app, stS_app]
  congr 2
  simp [lineF]
theorem endT (a : Tx) : stS a ++ (⟨#[13, 10]⟩ : ByteArray) = stS (a ++ crlf) := by rw [show (⟨#[13, 10]⟩ : ByteArray) = stS crlf from rfl, stS_app]
theorem upTo0 (h : Hd) : upToL h 0 = (if h.query = [] then h.method ++ 32 :: h.path else (h.method ++ 32 :: h.path) ++ 63 :: h.query) ++ 32 :: (versionL ++ crlf) := by
  unfold upToL line0 targL
  split <;> simp [endedL]
theorem upTo_bound {n : Nat} {h : Hd} (hl : HdLe n h) (j : Nat) : (upToL h j).length ≤ n * (2 * n + 4) + 3 * n + 20 := Nat.le_trans (upTo_le h j) (written_bound hl n hl.f.1)
set_option maxRecDepth 20000 in
set_option maxHeartbeats 16000000 in
theorem writeR_calls (h : Hd) (sp : Option Addr) (c : Nat) (w : World) (hF : FdsAt w sp h.fields) (hl : HdLe 1048576 h) :
    Calls Tryd.prog 15 #[hdVal h sp c] w fun e w' => WriteEnd h w.heap.size e w' ∧ Below w.heap.size w w' := by
  have WE := hide (show ∀ e W, WriteEnd h w.heap.size e W = match writeL h with
    | .ok b => ∃ g k, e = .returned (.tuple #[.slice (some ⟨g, 0, none⟩) b.length k, .int .i64 0]) ∧ OwnZ w.heap.size W g k (numsT b)
    | .bad n => e = .returned (.tuple #[.slice none 0 0, .int .i64 (n : Int)]) from fun e W => rfl)
  have FORM := hide (show mayBeL h = false → ∀ W, WriteEnd h w.heap.size (.returned (.tuple #[.slice none 0 0, .int .i64 4])) W from fun e W => by rw [unhide WE]; unfold writeL; rw [e]; rfl)
  have LIM := hide (show mayBeL h = true → (32 < h.fields.length ∨ 2048 < (writtenL h).length) → ∀ W, WriteEnd h w.heap.size (.returned (.tuple #[.slice none 0 0, .int .i64 6])) W from fun e hh W => by
    rw [unhide WE]; unfold writeL; rw [e, if_pos rfl]
    by_cases h1 : 32 < h.fields.length
    · rw [if_pos h1]; rfl
    · rw [if_neg h1, if_pos (by rcases hh with hh | hh; exact absurd hh h1; exact hh)]; rfl)
  have OKW := hide (show mayBeL h = true → ¬ 32 < h.fields.length → ¬ 2048 < (writtenL h).length → ∀ W g k, OwnZ w.heap.size W g k (numsT (writtenL h)) → WriteEnd h w.heap.size (.returned (.tuple #[.slice (some ⟨g, 0, none⟩) (writtenL h).length k, .int .i64 0])) W from fun e h1 h2 W g k ho => by
    rw [unhide WE]; unfold writeL; rw [e, if_pos rfl, if_neg h1, if_neg h2]; exact ⟨g, k, rfl, ho⟩)
  clear WE
  have MB := hide (show isTokenL h.method = false ∨ isPathL h.path = false ∨ isQueryL h.query = false → mayBeL h = false from fun hh => by
    unfold mayBeL
    rcases hh with hh | hh | hh <;> rw [hh] <;> simp)
  have TC := hide (fun W => tokenR_calls (stS h.method) (by rw [stS_size]; have := hl.m; simp only [maxLen]; omega) W)
  have PC := hide (fun W => pathR_calls (stS h.path) (by rw [stS_size]; have := hl.p; omega) W)
  have QC := hide (fun W => queryR_calls (stS h.query) (by rw [stS_size]; have := hl.q; omega) W)
  rw [stS_list] at TC PC QC
  have B1 := hide (show Below w.heap.size w (w.alloc (.cells #[.string (stS h.method), .string (stS h.path), .string (stS h.query), .string (stS h.host), .slice sp h.fields.length c] 25)) from (Below.refl _ _).alloc (Nat.le_refl _) _)
  have X1 := hide (heap_new w (.cells #[.string (stS h.method), .string (stS h.path), .string (stS h.query), .string (stS h.host), .slice sp h.fields.length c] 25))
  have k0 := box_cell (unhide X1) 0 _ rfl
  have k1 := box_cell (unhide X1) 1 _ rfl
  have k2 := box_cell (unhide X1) 2 _ rfl
  have k3 := box_cell (unhide X1) 3 _ rfl
  have k4 := box_cell (unhide X1) 4 _ rfl
  unfold hdVal
  cases hm : isTokenL h.method with
  | false =>
    have NV := hide (unhide FORM (unhide MB (.inl hm)))
    rw [hm] at TC
    clear hm hF hl FORM LIM OKW MB
    go_enter Tryd.func15, Tryd.ntmps15
    go_wp2_with (go_at_call 26; refine (unhide TC _).mono ?_; rintro e W1 ⟨rfl, hb1⟩; rw [hb1]; clear hb1)
    go_ret2
    exact ⟨unhide NV _, unhide B1⟩
  | true =>
  rw [hm] at TC
  cases hp : isPathL h.path with
  | false =>
    have NV := hide (unhide FORM (unhide MB (.inr (.inl hp))))
    rw [hp] at PC
    clear hm hp hF hl FORM LIM OKW MB
    go_enter Tryd.func15, Tryd.ntmps15
    go_wp2_with (first
      | (go_at_call 26; refine (unhide TC _).mono ?_; rintro e W1 ⟨rfl, hb1⟩; rw [hb1]; clear hb1)
      | (go_at_call 31; refine (unhide PC _).mono ?_; rintro e W2 ⟨rfl, hb2⟩; rw [hb2]; clear hb2))
    go_ret2
    exact ⟨unhide NV _, unhide B1⟩
  | true =>
  rw [hp] at PC
  cases hq : isQueryL h.query with
  | false =>
    have NV := hide (unhide FORM (unhide MB (.inr (.inr hq))))
    rw [hq] at QC
    clear hm hp hq hF hl FORM LIM OKW MB
    go_enter Tryd.func15, Tryd.ntmps15
    go_wp2_with (first
      | (go_at_call 26; refine (unhide TC _).mono ?_; rintro e W1 ⟨rfl, hb1⟩; rw [hb1]; clear hb1)
      | (go_at_call 31; refine (unhide PC _).mono ?_; rintro e W2 ⟨rfl, hb2⟩; rw [hb2]; clear hb2)
      | (go_at_call 32; refine (unhide QC _).mono ?_; rintro e W3 ⟨rfl, hb3⟩; rw [hb3]; clear hb3))
    go_ret2
    exact ⟨unhide NV _, unhide B1⟩
  | true =>
  rw [hq] at QC
  have hlf := hl.f.1
  have HZ := hide hl.f.2
  have hlm := hl.m
  have hlp := hl.p
  have hlq := hl.q
  have hlx := hl.x
  have HU := hide (fun j => upTo_bound hl j)
  have HWL := hide (written_bound hl 1048576 hl.f.1)
  have HF := hide hF
  have DN := hide (fun j (s : WSo h j) hj => s.done hj hm hp hq)
  have smz : (stS h.method).size ≤ 1048576 := hlm
  have spz : (stS h.path).size ≤ 1048576 := hlp
  have sqz : (stS h.query).size ≤ 1048576 := hlq
  have sxz : (stS h.host).size ≤ 9223372036854775807 := by rw [stS_size]; omega
  have hnil : (⟨#[]⟩ : ByteArray).toList = [] := by rw [ByteArray.toList_eq]
  have hqn := str_nil (stS h.query)
  rw [stS_list] at hqn
  have U0 := hide (upTo0 h)
  clear hm hp hq hF hl MB
  rcases Bool.eq_false_or_eq_true h.query.isEmpty with he | he
  focus
    rw [he] at hqn
    rw [if_pos (List.isEmpty_iff.1 he)] at U0
    have S0 := hide (show ((stS h.method ++ (⟨#[32]⟩ : ByteArray)) ++ stS h.path) ++ (⟨#[32, 72, 84, 84, 80, 47, 49, 46, 49, 13, 10]⟩ : ByteArray) = stS (upToL h 0) by rw [firstT0, firstT2, unhide U0])
    clear he U0
    go_enter Tryd.func15, Tryd.ntmps15
    go_wp2_with (first
      | (go_at_call 26; refine (unhide TC _).mono ?_; rintro e W1 ⟨rfl, hb1⟩; rw [hb1]; clear hb1)
      | (go_at_call 31; refine (unhide PC _).mono ?_; rintro e W2 ⟨rfl, hb2⟩; rw [hb2]; clear hb2)
      | (go_at_call 32; refine (unhide QC _).mono ?_; rintro e W3 ⟨rfl, hb3⟩; rw [hb3]; clear hb3))
  rotate_left
  focus
    rw [he] at hqn
    rw [if_neg (fun e => by rw [e] at he; cases he)] at U0
    have S0 := hide (show ((((stS h.method ++ (⟨#[32]⟩ : ByteArray)) ++ stS h.path) ++ ((⟨#[63]⟩ : ByteArray) ++ stS h.query)) ++ (⟨#[32, 72, 84, 84, 80, 47, 49, 46, 49, 13, 10]⟩ : ByteArray)) = stS (upToL h 0) by rw [firstT0, firstT1, firstT2, unhide U0])
    clear he U0
    go_enter Tryd.func15, Tryd.ntmps15
    go_wp2_with (first
      | (go_at_call 26; refine (unhide TC _).mono ?_; rintro e W1 ⟨rfl, hb1⟩; rw [hb1]; clear hb1)
      | (go_at_call 31; refine (unhide PC _).mono ?_; rintro e W2 ⟨rfl, hb2⟩; rw [hb2]; clear hb2)
      | (go_at_call 32; refine (unhide QC _).mono ?_; rintro e W3 ⟨rfl, hb3⟩; rw [hb3]; clear hb3))
  all_goals
    clear k0 k1 k2 TC PC QC X1
    generalize hn : h.fields.length = n at *
    have HN := hide hn
    clear hn
    generalize hWA : w.alloc (.cells #[.string (stS h.method), .string (stS h.path), .string (stS h.query), .string (stS h.host), .slice sp n c] 25) = WA at *
    clear hWA
    go_loopw [4, 5, 6] (fun s k i wr => ∃ j : Nat, j ≤ n ∧ s = .string (stS (upToL h j)) ∧ k = .int .i64 ((hostsOf (h.fields.take j)).length : Int) ∧ i = .int .i64 (j : Int) ∧ Hid (WSo h j) ∧ Hid (Below WA.heap.size WA wr)) (fun _ _ i _ => n - (intOf i).toNat)
    case atStart => exact ⟨0, by omega, by rw [← unhide S0], rfl, rfl, hide (wso0 h), hide (Below.refl _ _)⟩
    case round =>
      obtain ⟨j, hj, rfl, rfl, rfl, SW, B⟩ := hrel
      have F := hide ((unhide B1).trans ((unhide B).mono (unhide B1).size))
      have p3 := cell_later (unhide B) k3
      have p4 := cell_later (unhide B) k4
      have hul := unhide HU j
      have hsz : (stS (upToL h j)).size ≤ 140737488355328 := by rw [stS_size]; omega
      have hhl : (hostsOf (h.fields.take j)).length ≤ j := Nat.le_trans (List.length_filter_le _ _) (by rw [List.length_take]; omega)
      by_cases hjn : j < n
      · have y0 : (0 : Int) ≤ (j : Int) := by omega
        have y1 : (j : Int) < (n : Int) := by omega
        have hjl : j < h.fields.length := by rw [unhide HN]; exact hjn
        obtain ⟨g1, o1, rfl, q0, q1⟩ := unhide HF j hjl
        have r0 := cell_later (unhide F) q0
        have r1 := cell_later (unhide F) q1
        have hz := unhide HZ _ (List.getElem_mem hjl)
        have US := hide (upTo_step h j hjl)
        have BD := hide (fun e => unhide FORM (may_bad h j hjl e))
        have BH := hide (fun e1 e2 => unhide FORM (may_host h j hjl e1 e2))
        have WS := hide (fun e1 e2 => (unhide SW).skip hjl e1 e2)
        have WH := hide (fun e1 e2 e3 => (unhide SW).host hjl e1 e2 e3)
        have hw : IntKind.i64.wrap ((j : Int) + 1) = ((j + 1 : Nat) : Int) := by rw [IntKind.wrap_i64]; omega
        have hwk : IntKind.i64.wrap (((hostsOf (h.fields.take j)).length : Int) + 1) = ((hostsOf (h.fields.take j)).length : Int) + 1 := by rw [IntKind.wrap_i64]; omega
        clear q0 q1
        generalize h.fields[j] = t at *
        obtain ⟨tn, tv⟩ := t
        simp only at r0 r1 hz BH WS WH
        obtain ⟨hz1, hz2⟩ := hz
        have LT := hide (show stS (upToL h j) ++ (((stS tn ++ (⟨#[58, 32]⟩ : ByteArray)) ++ stS tv) ++ (⟨#[13, 10]⟩ : ByteArray)) = stS (upToL h (j + 1)) by rw [lineT, unhide US])
        have e0 := box_cell (heap_new wr (.cells #[.string (stS tn), .string (stS tv)] 43)) 0 _ rfl
        have e1 := box_cell (heap_new wr (.cells #[.string (stS tn), .string (stS tv)] 43)) 1 _ rfl
        have b0 : Below wr.heap.size wr (wr.alloc (.cells #[.string (stS tn), .string (stS tv)] 43)) := (Below.refl _ _).alloc (Nat.le_refl _) _
        have BW := hide ((unhide B).alloc (unhide B).size (.cells #[.string (stS tn), .string (stS tv)] 43))
        have FW := hide ((unhide F).alloc (unhide F).size (.cells #[.string (stS tn), .string (stS tv)] 43))
        have m3 := cell_later b0 p3
        have TK := hide (fun W => tokenR_calls (stS tn) (by rw [stS_size]; simp only [maxLen]; omega) W)
        have VL := hide (fun W => valueR_calls (stS tv) (by rw [stS_size]; simp only [maxLen]; omega) W)
        have LW := hide (fun W => lowerR_calls (stS tn) (by rw [stS_size]; omega) W)
        have HC := hide (fun W => hostR_calls (stS tv) (by rw [stS_size]; omega) W)
        rw [stS_list] at TK VL LW HC
        have zn : (stS tn).size ≤ 1048576 := hz1
        have zv : (stS tv).size ≤ 1048576 := hz2
        have zl : (stS (lowL tn)).size ≤ 9223372036854775807 := by rw [stS_size, low_len]; omega
        have hqq := str_eqL (lowL tn) tn
        have hhe := host_eq (stS tn)
        rw [stS_list] at hhe
        have HK := hide (show fdOk ⟨tn, tv⟩ = (isTokenL tn && (tn == lowL tn) && isValueL tv) from rfl)
        clear b0 US
        cases htk : isTokenL tn with
        | false =>
          have NV := hide (unhide BD (by rw [unhide HK, htk]; rfl))
          rw [htk] at TK
          clear htk FORM LIM OKW BD BH WS WH DN
          generalize stS (lowL tn) = sl at *
          generalize stS tn = sn at *
          generalize stS tv = sv at *
          go_wp2_with fail
          generalize hWB : wr.alloc (.cells #[.string sn, .string sv] 43) = WB at *
          clear hWB
          refine wp_region_held_drew (S := fun w' => w'.cell? ⟨wr.heap.size, 0, none⟩ = some (.string sn) ∧ w'.cell? ⟨wr.heap.size, 1, none⟩ = some (.string sv)) (by kernel_rfl) ?_ (fun hHeld => ?_)
          · try dsimp only
            first | (have hV : B9 = B9 := rfl; clear hV; exact ⟨cell_later (unhide B9) e0, cell_later (unhide B9) e1⟩) | (have hV : B8 = B8 := rfl; clear hV; exact ⟨cell_later (unhide B8) e0, cell_later (unhide B8) e1⟩) | (have hV : B7 = B7 := rfl; clear hV; exact ⟨cell_later (unhide B7) e0, cell_later (unhide B7) e1⟩) | exact ⟨e0, e1⟩
          refine held_take 0 (oi := { dst := some 54, op := Op.fieldAddr 43 (Operand.tmp 7) 0, type := 0, pos := "ref.go:231", after := #[], guard := none }) (v := ?_) (by kernel_rfl) rfl (by rfl) (by kernel_rfl) (by kernel_rfl) (fun _ _ _ h => h) ?_ (by assumption) ?_
          rotate_left
          · (intro w hSw; (try dsimp only at hSw); go_simp; try with_reducible rfl)
          try simp only [Act.put, List.setIfInBounds_toArray, List.set_cons_zero, List.set_cons_succ]
          refine held_take 1 (oi := { dst := some 55, op := Op.load 9 (Operand.tmp 54), type := 9, pos := "ref.go:231", after := #[{ on := 0, ground := Ground.data }], guard := none }) (v := ?_) (by kernel_rfl) rfl (by rfl) (by kernel_rfl) (by kernel_rfl) (fun _ _ _ h => h) ?_ (by assumption) ?_
          rotate_left
          · (intro w hSw; (try dsimp only at hSw); go_simp; try with_reducible rfl)
          try simp only [Act.put, List.setIfInBounds_toArray, List.set_cons_zero, List.set_cons_succ]
          refine held_one 2 (oi := { dst := some 56, op := Op.call { callee := Callee.value (Operand.func 26), args := #[Operand.tmp 55], argTypes := #[9] }, type := 4, pos := "ref.go:231", after := #[{ on := 1, ground := Ground.data }], guard := none }) (by kernel_rfl) rfl (fun K hK => ?_)
          go_simp
          first
            | (go_at_call 26
               refine (unhide TK _).mono ?_
               rintro e V1 ⟨rfl, v1⟩
               have B7 := hide (show Below WB.heap.size WB V1 by rw [v1]; exact (Below.refl _ _).drew)
               clear v1)
          go_wp2_with fail
          refine hK.out _ _ ?_ (fun hHeld => ?_)
          · try dsimp only
            first | (have hV : B9 = B9 := rfl; clear hV; exact ⟨cell_later (unhide B9) e0, cell_later (unhide B9) e1⟩) | (have hV : B8 = B8 := rfl; clear hV; exact ⟨cell_later (unhide B8) e0, cell_later (unhide B8) e1⟩) | (have hV : B7 = B7 := rfl; clear hV; exact ⟨cell_later (unhide B7) e0, cell_later (unhide B7) e1⟩) | exact ⟨e0, e1⟩
          clear hK K
          try simp only [Act.put, List.setIfInBounds_toArray, List.set_cons_zero, List.set_cons_succ]
          refine held_take 3 (oi := { dst := some 57, op := Op.unOp UnOp.not 4 (Operand.tmp 56), type := 4, pos := "ref.go:231", after := #[{ on := 2, ground := Ground.data }], guard := none }) (v := ?_) (by kernel_rfl) rfl (by rfl) (by kernel_rfl) (by kernel_rfl) (fun _ _ _ h => h) ?_ (by assumption) ?_
          rotate_left
          · (intro w hSw; (try dsimp only at hSw); go_simp; try with_reducible rfl)
          try simp only [Act.put, List.setIfInBounds_toArray, List.set_cons_zero, List.set_cons_succ]
          refine held_take 4 (oi := { dst := some 58, op := Op.move (Operand.tmp 57), type := 4, pos := "ref.go:231", after := #[{ on := 3, ground := Ground.data }, { on := 2, ground := Ground.chain }], guard := none }) (v := ?_) (by kernel_rfl) rfl (by rfl) (by kernel_rfl) (by kernel_rfl) (fun _ _ _ h => h) ?_ (by assumption) ?_
          rotate_left
          · (intro w hSw; (try dsimp only at hSw); go_simp; try with_reducible rfl)
          try simp only [Act.put, List.setIfInBounds_toArray, List.set_cons_zero, List.set_cons_succ]
          refine held_skip 5 (oi := { dst := some 59, op := Op.fieldAddr 43 (Operand.tmp 7) 0, type := 0, pos := "ref.go:231", after := #[{ on := 4, ground := Ground.guard }], guard := some (4, false) }) (by kernel_rfl) rfl (by rfl) (by kernel_rfl) (by kernel_rfl) (fun _ _ _ h => h) (by assumption) ?_
          try simp only [Act.put, List.setIfInBounds_toArray, List.set_cons_zero, List.set_cons_succ]
          refine held_skip 6 (oi := { dst := some 60, op := Op.load 9 (Operand.tmp 59), type := 9, pos := "ref.go:231", after := #[{ on := 5, ground := Ground.data }, { on := 4, ground := Ground.guard }], guard := some (4, false) }) (by kernel_rfl) rfl (by rfl) (by kernel_rfl) (by kernel_rfl) (fun _ _ _ h => h) (by assumption) ?_
          try simp only [Act.put, List.setIfInBounds_toArray, List.set_cons_zero, List.set_cons_succ]
          refine held_skip 8 (oi := { dst := some 62, op := Op.fieldAddr 43 (Operand.tmp 7) 0, type := 0, pos := "ref.go:231", after := #[{ on := 4, ground := Ground.guard }], guard := some (4, false) }) (by kernel_rfl) rfl (by rfl) (by kernel_rfl) (by kernel_rfl) (fun _ _ _ h => h) (by assumption) ?_
          try simp only [Act.put, List.setIfInBounds_toArray, List.set_cons_zero, List.set_cons_succ]
          refine held_skip 9 (oi := { dst := some 63, op := Op.load 9 (Operand.tmp 62), type := 9, pos := "ref.go:231", after := #[{ on := 8, ground := Ground.data }, { on := 4, ground := Ground.guard }], guard := some (4, false) }) (by kernel_rfl) rfl (by rfl) (by kernel_rfl) (by kernel_rfl) (fun _ _ _ h => h) (by assumption) ?_
          try simp only [Act.put, List.setIfInBounds_toArray, List.set_cons_zero, List.set_cons_succ]
          refine held_none 7 (oi := { dst := some 61, op := Op.call { callee := Callee.value (Operand.func 28), args := #[Operand.tmp 60], argTypes := #[9] }, type := 9, pos := "ref.go:231", after := #[{ on := 6, ground := Ground.data }, { on := 4, ground := Ground.chain }, { on := 4, ground := Ground.guard }], guard := some (4, false) }) (by kernel_rfl) rfl (by rfl) (by assumption) ?_
          try simp only [Act.put, List.setIfInBounds_toArray, List.set_cons_zero, List.set_cons_succ]
          refine held_skip 10 (oi := { dst := some 64, op := Op.binOp BinOp.neq 9 (Operand.tmp 61) (Operand.tmp 63) 9, type := 4, pos := "ref.go:231", after := #[{ on := 7, ground := Ground.data }, { on := 9, ground := Ground.data }, { on := 4, ground := Ground.guard }], guard := some (4, false) }) (by kernel_rfl) rfl (by rfl) (by kernel_rfl) (by kernel_rfl) (fun _ _ _ h => h) (by assumption) ?_
          try simp only [Act.put, List.setIfInBounds_toArray, List.set_cons_zero, List.set_cons_succ]
          refine held_take 11 (oi := { dst := some 65, op := Op.pick (Operand.tmp 58) (Operand.const (Value.bool true)) (Operand.tmp 64), type := 4, pos := "ref.go:231", after := #[{ on := 4, ground := Ground.data }, { on := 10, ground := Ground.data }], guard := none }) (v := ?_) (by kernel_rfl) rfl (by rfl) (by kernel_rfl) (by kernel_rfl) (fun _ _ _ h => h) ?_ (by assumption) ?_
          rotate_left
          · (intro w hSw; (try dsimp only at hSw); go_simp; try with_reducible rfl)
          try simp only [Act.put, List.setIfInBounds_toArray, List.set_cons_zero, List.set_cons_succ]
          refine held_take 12 (oi := { dst := some 66, op := Op.move (Operand.tmp 65), type := 4, pos := "ref.go:231", after := #[{ on := 11, ground := Ground.data }, { on := 7, ground := Ground.chain }], guard := none }) (v := ?_) (by kernel_rfl) rfl (by rfl) (by kernel_rfl) (by kernel_rfl) (fun _ _ _ h => h) ?_ (by assumption) ?_
          rotate_left
          · (intro w hSw; (try dsimp only at hSw); go_simp; try with_reducible rfl)
          try simp only [Act.put, List.setIfInBounds_toArray, List.set_cons_zero, List.set_cons_succ]
          refine held_skip 13 (oi := { dst := some 67, op := Op.fieldAddr 43 (Operand.tmp 7) 1, type := 0, pos := "ref.go:231", after := #[{ on := 12, ground := Ground.guard }], guard := some (12, false) }) (by kernel_rfl) rfl (by rfl) (by kernel_rfl) (by kernel_rfl) (fun _ _ _ h => h) (by assumption) ?_
          try simp only [Act.put, List.setIfInBounds_toArray, List.set_cons_zero, List.set_cons_succ]
          refine held_skip 14 (oi := { dst := some 68, op := Op.load 9 (Operand.tmp 67), type := 9, pos := "ref.go:231", after := #[{ on := 13, ground := Ground.data }, { on := 12, ground := Ground.guard }], guard := some (12, false) }) (by kernel_rfl) rfl (by rfl) (by kernel_rfl) (by kernel_rfl) (fun _ _ _ h => h) (by assumption) ?_
          try simp only [Act.put, List.setIfInBounds_toArray, List.set_cons_zero, List.set_cons_succ]
          refine held_none 15 (oi := { dst := some 69, op := Op.call { callee := Callee.value (Operand.func 27), args := #[Operand.tmp 68], argTypes := #[9] }, type := 4, pos := "ref.go:231", after := #[{ on := 14, ground := Ground.data }, { on := 12, ground := Ground.chain }, { on := 12, ground := Ground.guard }], guard := some (12, false) }) (by kernel_rfl) rfl (by rfl) (by assumption) ?_
          try simp only [Act.put, List.setIfInBounds_toArray, List.set_cons_zero, List.set_cons_succ]
          refine held_skip 16 (oi := { dst := some 70, op := Op.unOp UnOp.not 4 (Operand.tmp 69), type := 4, pos := "ref.go:231", after := #[{ on := 15, ground := Ground.data }, { on := 12, ground := Ground.guard }], guard := some (12, false) }) (by kernel_rfl) rfl (by rfl) (by kernel_rfl) (by kernel_rfl) (fun _ _ _ h => h) (by assumption) ?_
          try simp only [Act.put, List.setIfInBounds_toArray, List.set_cons_zero, List.set_cons_succ]
          refine held_take 17 (oi := { dst := some 71, op := Op.pick (Operand.tmp 66) (Operand.const (Value.bool true)) (Operand.tmp 70), type := 4, pos := "ref.go:231", after := #[{ on := 12, ground := Ground.data }, { on := 16, ground := Ground.data }], guard := none }) (v := ?_) (by kernel_rfl) rfl (by rfl) (by kernel_rfl) (by kernel_rfl) (fun _ _ _ h => h) ?_ (by assumption) ?_
          rotate_left
          · (intro w hSw; (try dsimp only at hSw); go_simp; try with_reducible rfl)
          try simp only [Act.put, List.setIfInBounds_toArray, List.set_cons_zero, List.set_cons_succ]
          refine wpAnyH_done (by kernel_rfl) ?_ _
          go_wp2
          go_ret2
          exact ⟨unhide NV _, (unhide FW).trans ((unhide B7).mono (unhide FW).size)⟩
        | true =>
        rw [htk] at TK
        have hsy : (lowL tn == tn) = (tn == lowL tn) := by rw [Bool.eq_iff_iff, beq_iff_eq, beq_iff_eq]; exact eq_comm
        rw [hsy] at hqq
        clear hsy
        cases hlo : (tn == lowL tn) with
        | false =>
          have NV := hide (unhide BD (by rw [unhide HK, htk, hlo]; rfl))
          rw [hlo] at hqq
          clear htk hlo FORM LIM OKW BD BH WS WH DN
          generalize stS (lowL tn) = sl at *
          generalize stS tn = sn at *
          generalize stS tv = sv at *
          go_wp2_with fail
          generalize hWB : wr.alloc (.cells #[.string sn, .string sv] 43) = WB at *
          clear hWB
          refine wp_region_held_drew (S := fun w' => w'.cell? ⟨wr.heap.size, 0, none⟩ = some (.string sn) ∧ w'.cell? ⟨wr.heap.size, 1, none⟩ = some (.string sv)) (by kernel_rfl) ?_ (fun hHeld => ?_)
          · try dsimp only
            first | (have hV : B9 = B9 := rfl; clear hV; exact ⟨cell_later (unhide B9) e0, cell_later (unhide B9) e1⟩) | (have hV : B8 = B8 := rfl; clear hV; exact ⟨cell_later (unhide B8) e0, cell_later (unhide B8) e1⟩) | (have hV : B7 = B7 := rfl; clear hV; exact ⟨cell_later (unhide B7) e0, cell_later (unhide B7) e1⟩) | exact ⟨e0, e1⟩
          refine held_take 0 (oi := { dst := some 54, op := Op.fieldAddr 43 (Operand.tmp 7) 0, type := 0, pos := "ref.go:231", after := #[], guard := none }) (v := ?_) (by kernel_rfl) rfl (by rfl) (by kernel_rfl) (by kernel_rfl) (fun _ _ _ h => h) ?_ (by assumption) ?_
          rotate_left
          · (intro w hSw; (try dsimp only at hSw); go_simp; try with_reducible rfl)
          try simp only [Act.put, List.setIfInBounds_toArray, List.set_cons_zero, List.set_cons_succ]
          refine held_take 1 (oi := { dst := some 55, op := Op.load 9 (Operand.tmp 54), type := 9, pos := "ref.go:231", after := #[{ on := 0, ground := Ground.data }], guard := none }) (v := ?_) (by kernel_rfl) rfl (by rfl) (by kernel_rfl) (by kernel_rfl) (fun _ _ _ h => h) ?_ (by assumption) ?_
          rotate_left
          · (intro w hSw; (try dsimp only at hSw); go_simp; try with_reducible rfl)
          try simp only [Act.put, List.setIfInBounds_toArray, List.set_cons_zero, List.set_cons_succ]
          refine held_one 2 (oi := { dst := some 56, op := Op.call { callee := Callee.value (Operand.func 26), args := #[Operand.tmp 55], argTypes := #[9] }, type := 4, pos := "ref.go:231", after := #[{ on := 1, ground := Ground.data }], guard := none }) (by kernel_rfl) rfl (fun K hK => ?_)
          go_simp
          first
            | (go_at_call 26
               refine (unhide TK _).mono ?_
               rintro e V1 ⟨rfl, v1⟩
               have B7 := hide (show Below WB.heap.size WB V1 by rw [v1]; exact (Below.refl _ _).drew)
               clear v1)
            | (go_at_call 28
               refine (unhide LW _).mono ?_
               rintro e V2 ⟨rfl, v2⟩
               have B8 := chain B7 v2
               clear v2)
          go_wp2_with fail
          refine hK.out _ _ ?_ (fun hHeld => ?_)
          · try dsimp only
            first | (have hV : B9 = B9 := rfl; clear hV; exact ⟨cell_later (unhide B9) e0, cell_later (unhide B9) e1⟩) | (have hV : B8 = B8 := rfl; clear hV; exact ⟨cell_later (unhide B8) e0, cell_later (unhide B8) e1⟩) | (have hV : B7 = B7 := rfl; clear hV; exact ⟨cell_later (unhide B7) e0, cell_later (unhide B7) e1⟩) | exact ⟨e0, e1⟩
          clear hK K
          try simp only [Act.put, List.setIfInBounds_toArray, List.set_cons_zero, List.set_cons_succ]
          refine held_take 3 (oi := { dst := some 57, op := Op.unOp UnOp.not 4 (Operand.tmp 56), type := 4, pos := "ref.go:231", after := #[{ on := 2, ground := Ground.data }], guard := none }) (v := ?_) (by kernel_rfl) rfl (by rfl) (by kernel_rfl) (by kernel_rfl) (fun _ _ _ h => h) ?_ (by assumption) ?_
          rotate_left
          · (intro w hSw; (try dsimp only at hSw); go_simp; try with_reducible rfl)
          try simp only [Act.put, List.setIfInBounds_toArray, List.set_cons_zero, List.set_cons_succ]
          refine held_take 4 (oi := { dst := some 58, op := Op.move (Operand.tmp 57), type := 4, pos := "ref.go:231", after := #[{ on := 3, ground := Ground.data }, { on := 2, ground := Ground.chain }], guard := none }) (v := ?_) (by kernel_rfl) rfl (by rfl) (by kernel_rfl) (by kernel_rfl) (fun _ _ _ h => h) ?_ (by assumption) ?_
          rotate_left
          · (intro w hSw; (try dsimp only at hSw); go_simp; try with_reducible rfl)
          try simp only [Act.put, List.setIfInBounds_toArray, List.set_cons_zero, List.set_cons_succ]
          refine held_take 5 (oi := { dst := some 59, op := Op.fieldAddr 43 (Operand.tmp 7) 0, type := 0, pos := "ref.go:231", after := #[{ on := 4, ground := Ground.guard }], guard := some (4, false) }) (v := ?_) (by kernel_rfl) rfl (by rfl) (by kernel_rfl) (by kernel_rfl) (fun _ _ _ h => h) ?_ (by assumption) ?_
          rotate_left
          · (intro w hSw; (try dsimp only at hSw); go_simp; try with_reducible rfl)
          try simp only [Act.put, List.setIfInBounds_toArray, List.set_cons_zero, List.set_cons_succ]
          refine held_take 6 (oi := { dst := some 60, op := Op.load 9 (Operand.tmp 59), type := 9, pos := "ref.go:231", after := #[{ on := 5, ground := Ground.data }, { on := 4, ground := Ground.guard }], guard := some (4, false) }) (v := ?_) (by kernel_rfl) rfl (by rfl) (by kernel_rfl) (by kernel_rfl) (fun _ _ _ h => h) ?_ (by assumption) ?_
          rotate_left
          · (intro w hSw; (try dsimp only at hSw); go_simp; try with_reducible rfl)
          try simp only [Act.put, List.setIfInBounds_toArray, List.set_cons_zero, List.set_cons_succ]
          refine held_take 8 (oi := { dst := some 62, op := Op.fieldAddr 43 (Operand.tmp 7) 0, type := 0, pos := "ref.go:231", after := #[{ on := 4, ground := Ground.guard }], guard := some (4, false) }) (v := ?_) (by kernel_rfl) rfl (by rfl) (by kernel_rfl) (by kernel_rfl) (fun _ _ _ h => h) ?_ (by assumption) ?_
          rotate_left
          · (intro w hSw; (try dsimp only at hSw); go_simp; try with_reducible rfl)
          try simp only [Act.put, List.setIfInBounds_toArray, List.set_cons_zero, List.set_cons_succ]
          refine held_take 9 (oi := { dst := some 63, op := Op.load 9 (Operand.tmp 62), type := 9, pos := "ref.go:231", after := #[{ on := 8, ground := Ground.data }, { on := 4, ground := Ground.guard }], guard := some (4, false) }) (v := ?_) (by kernel_rfl) rfl (by rfl) (by kernel_rfl) (by kernel_rfl) (fun _ _ _ h => h) ?_ (by assumption) ?_
          rotate_left
          · (intro w hSw; (try dsimp only at hSw); go_simp; try with_reducible rfl)
          try simp only [Act.put, List.setIfInBounds_toArray, List.set_cons_zero, List.set_cons_succ]
          refine held_one 7 (oi := { dst := some 61, op := Op.call { callee := Callee.value (Operand.func 28), args := #[Operand.tmp 60], argTypes := #[9] }, type := 9, pos := "ref.go:231", after := #[{ on := 6, ground := Ground.data }, { on := 4, ground := Ground.chain }, { on := 4, ground := Ground.guard }], guard := some (4, false) }) (by kernel_rfl) rfl (fun K hK => ?_)
          go_simp
          first
            | (go_at_call 26
               refine (unhide TK _).mono ?_
               rintro e V1 ⟨rfl, v1⟩
               have B7 := hide (show Below WB.heap.size WB V1 by rw [v1]; exact (Below.refl _ _).drew)
               clear v1)
            | (go_at_call 28
               refine (unhide LW _).mono ?_
               rintro e V2 ⟨rfl, v2⟩
               have B8 := chain B7 v2
               clear v2)
          go_wp2_with fail
          refine hK.out _ _ ?_ (fun hHeld => ?_)
          · try dsimp only
            first | (have hV : B9 = B9 := rfl; clear hV; exact ⟨cell_later (unhide B9) e0, cell_later (unhide B9) e1⟩) | (have hV : B8 = B8 := rfl; clear hV; exact ⟨cell_later (unhide B8) e0, cell_later (unhide B8) e1⟩) | (have hV : B7 = B7 := rfl; clear hV; exact ⟨cell_later (unhide B7) e0, cell_later (unhide B7) e1⟩) | exact ⟨e0, e1⟩
          clear hK K
          try simp only [Act.put, List.setIfInBounds_toArray, List.set_cons_zero, List.set_cons_succ]
          refine held_take 10 (oi := { dst := some 64, op := Op.binOp BinOp.neq 9 (Operand.tmp 61) (Operand.tmp 63) 9, type := 4, pos := "ref.go:231", after := #[{ on := 7, ground := Ground.data }, { on := 9, ground := Ground.data }, { on := 4, ground := Ground.guard }], guard := some (4, false) }) (v := ?_) (by kernel_rfl) rfl (by rfl) (by kernel_rfl) (by kernel_rfl) (fun _ _ _ h => h) ?_ (by assumption) ?_
          rotate_left
          · (intro w hSw; (try dsimp only at hSw); go_simp; try with_reducible rfl)
          try simp only [Act.put, List.setIfInBounds_toArray, List.set_cons_zero, List.set_cons_succ]
          refine held_take 11 (oi := { dst := some 65, op := Op.pick (Operand.tmp 58) (Operand.const (Value.bool true)) (Operand.tmp 64), type := 4, pos := "ref.go:231", after := #[{ on := 4, ground := Ground.data }, { on := 10, ground := Ground.data }], guard := none }) (v := ?_) (by kernel_rfl) rfl (by rfl) (by kernel_rfl) (by kernel_rfl) (fun _ _ _ h => h) ?_ (by assumption) ?_
          rotate_left
          · (intro w hSw; (try dsimp only at hSw); go_simp; try with_reducible rfl)
          try simp only [Act.put, List.setIfInBounds_toArray, List.set_cons_zero, List.set_cons_succ]
          refine held_take 12 (oi := { dst := some 66, op := Op.move (Operand.tmp 65), type := 4, pos := "ref.go:231", after := #[{ on := 11, ground := Ground.data }, { on := 7, ground := Ground.chain }], guard := none }) (v := ?_) (by kernel_rfl) rfl (by rfl) (by kernel_rfl) (by kernel_rfl) (fun _ _ _ h => h) ?_ (by assumption) ?_
          rotate_left
          · (intro w hSw; (try dsimp only at hSw); go_simp; try with_reducible rfl)
          try simp only [Act.put, List.setIfInBounds_toArray, List.set_cons_zero, List.set_cons_succ]
          refine held_skip 13 (oi := { dst := some 67, op := Op.fieldAddr 43 (Operand.tmp 7) 1, type := 0, pos := "ref.go:231", after := #[{ on := 12, ground := Ground.guard }], guard := some (12, false) }) (by kernel_rfl) rfl (by rfl) (by kernel_rfl) (by kernel_rfl) (fun _ _ _ h => h) (by assumption) ?_
          try simp only [Act.put, List.setIfInBounds_toArray, List.set_cons_zero, List.set_cons_succ]
          refine held_skip 14 (oi := { dst := some 68, op := Op.load 9 (Operand.tmp 67), type := 9, pos := "ref.go:231", after := #[{ on := 13, ground := Ground.data }, { on := 12, ground := Ground.guard }], guard := some (12, false) }) (by kernel_rfl) rfl (by rfl) (by kernel_rfl) (by kernel_rfl) (fun _ _ _ h => h) (by assumption) ?_
          try simp only [Act.put, List.setIfInBounds_toArray, List.set_cons_zero, List.set_cons_succ]
          refine held_none 15 (oi := { dst := some 69, op := Op.call { callee := Callee.value (Operand.func 27), args := #[Operand.tmp 68], argTypes := #[9] }, type := 4, pos := "ref.go:231", after := #[{ on := 14, ground := Ground.data }, { on := 12, ground := Ground.chain }, { on := 12, ground := Ground.guard }], guard := some (12, false) }) (by kernel_rfl) rfl (by rfl) (by assumption) ?_
          try simp only [Act.put, List.setIfInBounds_toArray, List.set_cons_zero, List.set_cons_succ]
          refine held_skip 16 (oi := { dst := some 70, op := Op.unOp UnOp.not 4 (Operand.tmp 69), type := 4, pos := "ref.go:231", after := #[{ on := 15, ground := Ground.data }, { on := 12, ground := Ground.guard }], guard := some (12, false) }) (by kernel_rfl) rfl (by rfl) (by kernel_rfl) (by kernel_rfl) (fun _ _ _ h => h) (by assumption) ?_
          try simp only [Act.put, List.setIfInBounds_toArray, List.set_cons_zero, List.set_cons_succ]
          refine held_take 17 (oi := { dst := some 71, op := Op.pick (Operand.tmp 66) (Operand.const (Value.bool true)) (Operand.tmp 70), type := 4, pos := "ref.go:231", after := #[{ on := 12, ground := Ground.data }, { on := 16, ground := Ground.data }], guard := none }) (v := ?_) (by kernel_rfl) rfl (by rfl) (by kernel_rfl) (by kernel_rfl) (fun _ _ _ h => h) ?_ (by assumption) ?_
          rotate_left
          · (intro w hSw; (try dsimp only at hSw); go_simp; try with_reducible rfl)
          try simp only [Act.put, List.setIfInBounds_toArray, List.set_cons_zero, List.set_cons_succ]
          refine wpAnyH_done (by kernel_rfl) ?_ _
          go_wp2
          go_ret2
          exact ⟨unhide NV _, (unhide FW).trans ((unhide B8).mono (unhide FW).size)⟩
        | true =>
        rw [hlo] at hqq
        cases hvl : isValueL tv with
        | false =>
          have NV := hide (unhide BD (by rw [unhide HK, htk, hlo, hvl]; rfl))
          rw [hvl] at VL
          clear htk hlo hvl FORM LIM OKW BD BH WS WH DN
          generalize stS (lowL tn) = sl at *
          generalize stS tn = sn at *
          generalize stS tv = sv at *
          go_wp2_with fail
          generalize hWB : wr.alloc (.cells #[.string sn, .string sv] 43) = WB at *
          clear hWB
          refine wp_region_held_drew (S := fun w' => w'.cell? ⟨wr.heap.size, 0, none⟩ = some (.string sn) ∧ w'.cell? ⟨wr.heap.size, 1, none⟩ = some (.string sv)) (by kernel_rfl) ?_ (fun hHeld => ?_)
          · try dsimp only
            first | (have hV : B9 = B9 := rfl; clear hV; exact ⟨cell_later (unhide B9) e0, cell_later (unhide B9) e1⟩) | (have hV : B8 = B8 := rfl; clear hV; exact ⟨cell_later (unhide B8) e0, cell_later (unhide B8) e1⟩) | (have hV : B7 = B7 := rfl; clear hV; exact ⟨cell_later (unhide B7) e0, cell_later (unhide B7) e1⟩) | exact ⟨e0, e1⟩
          refine held_take 0 (oi := { dst := some 54, op := Op.fieldAddr 43 (Operand.tmp 7) 0, type := 0, pos := "ref.go:231", after := #[], guard := none }) (v := ?_) (by kernel_rfl) rfl (by rfl) (by kernel_rfl) (by kernel_rfl) (fun _ _ _ h => h) ?_ (by assumption) ?_
          rotate_left
          · (intro w hSw; (try dsimp only at hSw); go_simp; try with_reducible rfl)
          try simp only [Act.put, List.setIfInBounds_toArray, List.set_cons_zero, List.set_cons_succ]
          refine held_take 1 (oi := { dst := some 55, op := Op.load 9 (Operand.tmp 54), type := 9, pos := "ref.go:231", after := #[{ on := 0, ground := Ground.data }], guard := none }) (v := ?_) (by kernel_rfl) rfl (by rfl) (by kernel_rfl) (by kernel_rfl) (fun _ _ _ h => h) ?_ (by assumption) ?_
          rotate_left
          · (intro w hSw; (try dsimp only at hSw); go_simp; try with_reducible rfl)
          try simp only [Act.put, List.setIfInBounds_toArray, List.set_cons_zero, List.set_cons_succ]
          refine held_one 2 (oi := { dst := some 56, op := Op.call { callee := Callee.value (Operand.func 26), args := #[Operand.tmp 55], argTypes := #[9] }, type := 4, pos := "ref.go:231", after := #[{ on := 1, ground := Ground.data }], guard := none }) (by kernel_rfl) rfl (fun K hK => ?_)
          go_simp
          first
            | (go_at_call 26
               refine (unhide TK _).mono ?_
               rintro e V1 ⟨rfl, v1⟩
               have B7 := hide (show Below WB.heap.size WB V1 by rw [v1]; exact (Below.refl _ _).drew)
               clear v1)
            | (go_at_call 28
               refine (unhide LW _).mono ?_
               rintro e V2 ⟨rfl, v2⟩
               have B8 := chain B7 v2
               clear v2)
            | (go_at_call 27
               refine (unhide VL _).mono ?_
               rintro e V3 ⟨rfl, v3⟩
               have B9 := hide (show Below WB.heap.size WB V3 by rw [v3]; exact unhide B8)
               clear v3)
          go_wp2_with fail
          refine hK.out _ _ ?_ (fun hHeld => ?_)
          · try dsimp only
            first | (have hV : B9 = B9 := rfl; clear hV; exact ⟨cell_later (unhide B9) e0, cell_later (unhide B9) e1⟩) | (have hV : B8 = B8 := rfl; clear hV; exact ⟨cell_later (unhide B8) e0, cell_later (unhide B8) e1⟩) | (have hV : B7 = B7 := rfl; clear hV; exact ⟨cell_later (unhide B7) e0, cell_later (unhide B7) e1⟩) | exact ⟨e0, e1⟩
          clear hK K
          try simp only [Act.put, List.setIfInBounds_toArray, List.set_cons_zero, List.set_cons_succ]
          refine held_take 3 (oi := { dst := some 57, op := Op.unOp UnOp.not 4 (Operand.tmp 56), type := 4, pos := "ref.go:231", after := #[{ on := 2, ground := Ground.data }], guard := none }) (v := ?_) (by kernel_rfl) rfl (by rfl) (by kernel_rfl) (by kernel_rfl) (fun _ _ _ h => h) ?_ (by assumption) ?_
          rotate_left
          · (intro w hSw; (try dsimp only at hSw); go_simp; try with_reducible rfl)
          try simp only [Act.put, List.setIfInBounds_toArray, List.set_cons_zero, List.set_cons_succ]
          refine held_take 4 (oi := { dst := some 58, op := Op.move (Operand.tmp 57), type := 4, pos := "ref.go:231", after := #[{ on := 3, ground := Ground.data }, { on := 2, ground := Ground.chain }], guard := none }) (v := ?_) (by kernel_rfl) rfl (by rfl) (by kernel_rfl) (by kernel_rfl) (fun _ _ _ h => h) ?_ (by assumption) ?_
          rotate_left
          · (intro w hSw; (try dsimp only at hSw); go_simp; try with_reducible rfl)
          try simp only [Act.put, List.setIfInBounds_toArray, List.set_cons_zero, List.set_cons_succ]
          refine held_take 5 (oi := { dst := some 59, op := Op.fieldAddr 43 (Operand.tmp 7) 0, type := 0, pos := "ref.go:231", after := #[{ on := 4, ground := Ground.guard }], guard := some (4, false) }) (v := ?_) (by kernel_rfl) rfl (by rfl) (by kernel_rfl) (by kernel_rfl) (fun _ _ _ h => h) ?_ (by assumption) ?_
          rotate_left
          · (intro w hSw; (try dsimp only at hSw); go_simp; try with_reducible rfl)
          try simp only [Act.put, List.setIfInBounds_toArray, List.set_cons_zero, List.set_cons_succ]
          refine held_take 6 (oi := { dst := some 60, op := Op.load 9 (Operand.tmp 59), type := 9, pos := "ref.go:231", after := #[{ on := 5, ground := Ground.data }, { on := 4, ground := Ground.guard }], guard := some (4, false) }) (v := ?_) (by kernel_rfl) rfl (by rfl) (by kernel_rfl) (by kernel_rfl) (fun _ _ _ h => h) ?_ (by assumption) ?_
          rotate_left
          · (intro w hSw; (try dsimp only at hSw); go_simp; try with_reducible rfl)
          try simp only [Act.put, List.setIfInBounds_toArray, List.set_cons_zero, List.set_cons_succ]
          refine held_take 8 (oi := { dst := some 62, op := Op.fieldAddr 43 (Operand.tmp 7) 0, type := 0, pos := "ref.go:231", after := #[{ on := 4, ground := Ground.guard }], guard := some (4, false) }) (v := ?_) (by kernel_rfl) rfl (by rfl) (by kernel_rfl) (by kernel_rfl) (fun _ _ _ h => h) ?_ (by assumption) ?_
          rotate_left
          · (intro w hSw; (try dsimp only at hSw); go_simp; try with_reducible rfl)
          try simp only [Act.put, List.setIfInBounds_toArray, List.set_cons_zero, List.set_cons_succ]
          refine held_take 9 (oi := { dst := some 63, op := Op.load 9 (Operand.tmp 62), type := 9, pos := "ref.go:231", after := #[{ on := 8, ground := Ground.data }, { on := 4, ground := Ground.guard }], guard := some (4, false) }) (v := ?_) (by kernel_rfl) rfl (by rfl) (by kernel_rfl) (by kernel_rfl) (fun _ _ _ h => h) ?_ (by assumption) ?_
          rotate_left
          · (intro w hSw; (try dsimp only at hSw); go_simp; try with_reducible rfl)
          try simp only [Act.put, List.setIfInBounds_toArray, List.set_cons_zero, List.set_cons_succ]
          refine held_one 7 (oi := { dst := some 61, op := Op.call { callee := Callee.value (Operand.func 28), args := #[Operand.tmp 60], argTypes := #[9] }, type := 9, pos := "ref.go:231", after := #[{ on := 6, ground := Ground.data }, { on := 4, ground := Ground.chain }, { on := 4, ground := Ground.guard }], guard := some (4, false) }) (by kernel_rfl) rfl (fun K hK => ?_)
          go_simp
          first
            | (go_at_call 26
               refine (unhide TK _).mono ?_
               rintro e V1 ⟨rfl, v1⟩
               have B7 := hide (show Below WB.heap.size WB V1 by rw [v1]; exact (Below.refl _ _).drew)
               clear v1)
            | (go_at_call 28
               refine (unhide LW _).mono ?_
               rintro e V2 ⟨rfl, v2⟩
               have B8 := chain B7 v2
               clear v2)
            | (go_at_call 27
               refine (unhide VL _).mono ?_
               rintro e V3 ⟨rfl, v3⟩
               have B9 := hide (show Below WB.heap.size WB V3 by rw [v3]; exact unhide B8)
               clear v3)
          go_wp2_with fail
          refine hK.out _ _ ?_ (fun hHeld => ?_)
          · try dsimp only
            first | (have hV : B9 = B9 := rfl; clear hV; exact ⟨cell_later (unhide B9) e0, cell_later (unhide B9) e1⟩) | (have hV : B8 = B8 := rfl; clear hV; exact ⟨cell_later (unhide B8) e0, cell_later (unhide B8) e1⟩) | (have hV : B7 = B7 := rfl; clear hV; exact ⟨cell_later (unhide B7) e0, cell_later (unhide B7) e1⟩) | exact ⟨e0, e1⟩
          clear hK K
          try simp only [Act.put, List.setIfInBounds_toArray, List.set_cons_zero, List.set_cons_succ]
          refine held_take 10 (oi := { dst := some 64, op := Op.binOp BinOp.neq 9 (Operand.tmp 61) (Operand.tmp 63) 9, type := 4, pos := "ref.go:231", after := #[{ on := 7, ground := Ground.data }, { on := 9, ground := Ground.data }, { on := 4, ground := Ground.guard }], guard := some (4, false) }) (v := ?_) (by kernel_rfl) rfl (by rfl) (by kernel_rfl) (by kernel_rfl) (fun _ _ _ h => h) ?_ (by assumption) ?_
          rotate_left
          · (intro w hSw; (try dsimp only at hSw); go_simp; try with_reducible rfl)
          try simp only [Act.put, List.setIfInBounds_toArray, List.set_cons_zero, List.set_cons_succ]
          refine held_take 11 (oi := { dst := some 65, op := Op.pick (Operand.tmp 58) (Operand.const (Value.bool true)) (Operand.tmp 64), type := 4, pos := "ref.go:231", after := #[{ on := 4, ground := Ground.data }, { on := 10, ground := Ground.data }], guard := none }) (v := ?_) (by kernel_rfl) rfl (by rfl) (by kernel_rfl) (by kernel_rfl) (fun _ _ _ h => h) ?_ (by assumption) ?_
          rotate_left
          · (intro w hSw; (try dsimp only at hSw); go_simp; try with_reducible rfl)
          try simp only [Act.put, List.setIfInBounds_toArray, List.set_cons_zero, List.set_cons_succ]
          refine held_take 12 (oi := { dst := some 66, op := Op.move (Operand.tmp 65), type := 4, pos := "ref.go:231", after := #[{ on := 11, ground := Ground.data }, { on := 7, ground := Ground.chain }], guard := none }) (v := ?_) (by kernel_rfl) rfl (by rfl) (by kernel_rfl) (by kernel_rfl) (fun _ _ _ h => h) ?_ (by assumption) ?_
          rotate_left
          · (intro w hSw; (try dsimp only at hSw); go_simp; try with_reducible rfl)
          try simp only [Act.put, List.setIfInBounds_toArray, List.set_cons_zero, List.set_cons_succ]
          refine held_take 13 (oi := { dst := some 67, op := Op.fieldAddr 43 (Operand.tmp 7) 1, type := 0, pos := "ref.go:231", after := #[{ on := 12, ground := Ground.guard }], guard := some (12, false) }) (v := ?_) (by kernel_rfl) rfl (by rfl) (by kernel_rfl) (by kernel_rfl) (fun _ _ _ h => h) ?_ (by assumption) ?_
          rotate_left
          · (intro w hSw; (try dsimp only at hSw); go_simp; try with_reducible rfl)
          try simp only [Act.put, List.setIfInBounds_toArray, List.set_cons_zero, List.set_cons_succ]
          refine held_take 14 (oi := { dst := some 68, op := Op.load 9 (Operand.tmp 67), type := 9, pos := "ref.go:231", after := #[{ on := 13, ground := Ground.data }, { on := 12, ground := Ground.guard }], guard := some (12, false) }) (v := ?_) (by kernel_rfl) rfl (by rfl) (by kernel_rfl) (by kernel_rfl) (fun _ _ _ h => h) ?_ (by assumption) ?_
          rotate_left
          · (intro w hSw; (try dsimp only at hSw); go_simp; try with_reducible rfl)
          try simp only [Act.put, List.setIfInBounds_toArray, List.set_cons_zero, List.set_cons_succ]
          refine held_one 15 (oi := { dst := some 69, op := Op.call { callee := Callee.value (Operand.func 27), args := #[Operand.tmp 68], argTypes := #[9] }, type := 4, pos := "ref.go:231", after := #[{ on := 14, ground := Ground.data }, { on := 12, ground := Ground.chain }, { on := 12, ground := Ground.guard }], guard := some (12, false) }) (by kernel_rfl) rfl (fun K hK => ?_)
          go_simp
          first
            | (go_at_call 26
               refine (unhide TK _).mono ?_
               rintro e V1 ⟨rfl, v1⟩
               have B7 := hide (show Below WB.heap.size WB V1 by rw [v1]; exact (Below.refl _ _).drew)
               clear v1)
            | (go_at_call 28
               refine (unhide LW _).mono ?_
               rintro e V2 ⟨rfl, v2⟩
               have B8 := chain B7 v2
               clear v2)
            | (go_at_call 27
               refine (unhide VL _).mono ?_
               rintro e V3 ⟨rfl, v3⟩
               have B9 := hide (show Below WB.heap.size WB V3 by rw [v3]; exact unhide B8)
               clear v3)
          go_wp2_with fail
          refine hK.out _ _ ?_ (fun hHeld => ?_)
          · try dsimp only
            first | (have hV : B9 = B9 := rfl; clear hV; exact ⟨cell_later (unhide B9) e0, cell_later (unhide B9) e1⟩) | (have hV : B8 = B8 := rfl; clear hV; exact ⟨cell_later (unhide B8) e0, cell_later (unhide B8) e1⟩) | (have hV : B7 = B7 := rfl; clear hV; exact ⟨cell_later (unhide B7) e0, cell_later (unhide B7) e1⟩) | exact ⟨e0, e1⟩
          clear hK K
          try simp only [Act.put, List.setIfInBounds_toArray, List.set_cons_zero, List.set_cons_succ]
          refine held_take 16 (oi := { dst := some 70, op := Op.unOp UnOp.not 4 (Operand.tmp 69), type := 4, pos := "ref.go:231", after := #[{ on := 15, ground := Ground.data }, { on := 12, ground := Ground.guard }], guard := some (12, false) }) (v := ?_) (by kernel_rfl) rfl (by rfl) (by kernel_rfl) (by kernel_rfl) (fun _ _ _ h => h) ?_ (by assumption) ?_
          rotate_left
          · (intro w hSw; (try dsimp only at hSw); go_simp; try with_reducible rfl)
          try simp only [Act.put, List.setIfInBounds_toArray, List.set_cons_zero, List.set_cons_succ]
          refine held_take 17 (oi := { dst := some 71, op := Op.pick (Operand.tmp 66) (Operand.const (Value.bool true)) (Operand.tmp 70), type := 4, pos := "ref.go:231", after := #[{ on := 12, ground := Ground.data }, { on := 16, ground := Ground.data }], guard := none }) (v := ?_) (by kernel_rfl) rfl (by rfl) (by kernel_rfl) (by kernel_rfl) (fun _ _ _ h => h) ?_ (by assumption) ?_
          rotate_left
          · (intro w hSw; (try dsimp only at hSw); go_simp; try with_reducible rfl)
          try simp only [Act.put, List.setIfInBounds_toArray, List.set_cons_zero, List.set_cons_succ]
          refine wpAnyH_done (by kernel_rfl) ?_ _
          go_wp2
          go_ret2
          exact ⟨unhide NV _, (unhide FW).trans ((unhide B9).mono (unhide FW).size)⟩
        | true =>
        rw [hvl] at VL
        have hok : fdOk ⟨tn, tv⟩ = true := by rw [unhide HK, htk, hlo, hvl]; rfl
        have WS2 := hide (unhide WS hok)
        have WH2 := hide (unhide WH hok)
        clear htk hlo hvl hok WS WH BD
        cases hhn : (tn == hostName) with
        | false =>
          rw [hhn] at hhe
          have PF := unhide WS2 (fun e => by rw [e] at hhn; cases hhn)
          have PS1 := hide PF.1
          have PS2 := hide PF.2
          clear hhn PF WS2 WH2 BH FORM LIM OKW DN
          rw [show ([104, 111, 115, 116] : List UInt8) = [104, 111, 115, 116] from rfl] at hhe
          generalize stS (lowL tn) = sl at *
          generalize stS tn = sn at *
          generalize stS tv = sv at *
          generalize (hostsOf (h.fields.take j)).length = nh at *
          go_wp2_with fail
          generalize hWB : wr.alloc (.cells #[.string sn, .string sv] 43) = WB at *
          clear hWB
          refine wp_region_held_drew (S := fun w' => w'.cell? ⟨wr.heap.size, 0, none⟩ = some (.string sn) ∧ w'.cell? ⟨wr.heap.size, 1, none⟩ = some (.string sv)) (by kernel_rfl) ?_ (fun hHeld => ?_)
          · try dsimp only
            first | (have hV : B9 = B9 := rfl; clear hV; exact ⟨cell_later (unhide B9) e0, cell_later (unhide B9) e1⟩) | (have hV : B8 = B8 := rfl; clear hV; exact ⟨cell_later (unhide B8) e0, cell_later (unhide B8) e1⟩) | (have hV : B7 = B7 := rfl; clear hV; exact ⟨cell_later (unhide B7) e0, cell_later (unhide B7) e1⟩) | exact ⟨e0, e1⟩
          refine held_take 0 (oi := { dst := some 54, op := Op.fieldAddr 43 (Operand.tmp 7) 0, type := 0, pos := "ref.go:231", after := #[], guard := none }) (v := ?_) (by kernel_rfl) rfl (by rfl) (by kernel_rfl) (by kernel_rfl) (fun _ _ _ h => h) ?_ (by assumption) ?_
          rotate_left
          · (intro w hSw; (try dsimp only at hSw); go_simp; try with_reducible rfl)
          try simp only [Act.put, List.setIfInBounds_toArray, List.set_cons_zero, List.set_cons_succ]
          refine held_take 1 (oi := { dst := some 55, op := Op.load 9 (Operand.tmp 54), type := 9, pos := "ref.go:231", after := #[{ on := 0, ground := Ground.data }], guard := none }) (v := ?_) (by kernel_rfl) rfl (by rfl) (by kernel_rfl) (by kernel_rfl) (fun _ _ _ h => h) ?_ (by assumption) ?_
          rotate_left
          · (intro w hSw; (try dsimp only at hSw); go_simp; try with_reducible rfl)
          try simp only [Act.put, List.setIfInBounds_toArray, List.set_cons_zero, List.set_cons_succ]
          refine held_one 2 (oi := { dst := some 56, op := Op.call { callee := Callee.value (Operand.func 26), args := #[Operand.tmp 55], argTypes := #[9] }, type := 4, pos := "ref.go:231", after := #[{ on := 1, ground := Ground.data }], guard := none }) (by kernel_rfl) rfl (fun K hK => ?_)
          go_simp
          first
            | (go_at_call 26
               refine (unhide TK _).mono ?_
               rintro e V1 ⟨rfl, v1⟩
               have B7 := hide (show Below WB.heap.size WB V1 by rw [v1]; exact (Below.refl _ _).drew)
               clear v1)
            | (go_at_call 28
               refine (unhide LW _).mono ?_
               rintro e V2 ⟨rfl, v2⟩
               have B8 := chain B7 v2
               clear v2)
            | (go_at_call 27
               refine (unhide VL _).mono ?_
               rintro e V3 ⟨rfl, v3⟩
               have B9 := hide (show Below WB.heap.size WB V3 by rw [v3]; exact unhide B8)
               clear v3)
          go_wp2_with fail
          refine hK.out _ _ ?_ (fun hHeld => ?_)
          · try dsimp only
            first | (have hV : B9 = B9 := rfl; clear hV; exact ⟨cell_later (unhide B9) e0, cell_later (unhide B9) e1⟩) | (have hV : B8 = B8 := rfl; clear hV; exact ⟨cell_later (unhide B8) e0, cell_later (unhide B8) e1⟩) | (have hV : B7 = B7 := rfl; clear hV; exact ⟨cell_later (unhide B7) e0, cell_later (unhide B7) e1⟩) | exact ⟨e0, e1⟩
          clear hK K
          try simp only [Act.put, List.setIfInBounds_toArray, List.set_cons_zero, List.set_cons_succ]
          refine held_take 3 (oi := { dst := some 57, op := Op.unOp UnOp.not 4 (Operand.tmp 56), type := 4, pos := "ref.go:231", after := #[{ on := 2, ground := Ground.data }], guard := none }) (v := ?_) (by kernel_rfl) rfl (by rfl) (by kernel_rfl) (by kernel_rfl) (fun _ _ _ h => h) ?_ (by assumption) ?_
          rotate_left
          · (intro w hSw; (try dsimp only at hSw); go_simp; try with_reducible rfl)
          try simp only [Act.put, List.setIfInBounds_toArray, List.set_cons_zero, List.set_cons_succ]
          refine held_take 4 (oi := { dst := some 58, op := Op.move (Operand.tmp 57), type := 4, pos := "ref.go:231", after := #[{ on := 3, ground := Ground.data }, { on := 2, ground := Ground.chain }], guard := none }) (v := ?_) (by kernel_rfl) rfl (by rfl) (by kernel_rfl) (by kernel_rfl) (fun _ _ _ h => h) ?_ (by assumption) ?_
          rotate_left
          · (intro w hSw; (try dsimp only at hSw); go_simp; try with_reducible rfl)
          try simp only [Act.put, List.setIfInBounds_toArray, List.set_cons_zero, List.set_cons_succ]
          refine held_take 5 (oi := { dst := some 59, op := Op.fieldAddr 43 (Operand.tmp 7) 0, type := 0, pos := "ref.go:231", after := #[{ on := 4, ground := Ground.guard }], guard := some (4, false) }) (v := ?_) (by kernel_rfl) rfl (by rfl) (by kernel_rfl) (by kernel_rfl) (fun _ _ _ h => h) ?_ (by assumption) ?_
          rotate_left
          · (intro w hSw; (try dsimp only at hSw); go_simp; try with_reducible rfl)
          try simp only [Act.put, List.setIfInBounds_toArray, List.set_cons_zero, List.set_cons_succ]
          refine held_take 6 (oi := { dst := some 60, op := Op.load 9 (Operand.tmp 59), type := 9, pos := "ref.go:231", after := #[{ on := 5, ground := Ground.data }, { on := 4, ground := Ground.guard }], guard := some (4, false) }) (v := ?_) (by kernel_rfl) rfl (by rfl) (by kernel_rfl) (by kernel_rfl) (fun _ _ _ h => h) ?_ (by assumption) ?_
          rotate_left
          · (intro w hSw; (try dsimp only at hSw); go_simp; try with_reducible rfl)
          try simp only [Act.put, List.setIfInBounds_toArray, List.set_cons_zero, List.set_cons_succ]
          refine held_take 8 (oi := { dst := some 62, op := Op.fieldAddr 43 (Operand.tmp 7) 0, type := 0, pos := "ref.go:231", after := #[{ on := 4, ground := Ground.guard }], guard := some (4, false) }) (v := ?_) (by kernel_rfl) rfl (by rfl) (by kernel_rfl) (by kernel_rfl) (fun _ _ _ h => h) ?_ (by assumption) ?_
          rotate_left
          · (intro w hSw; (try dsimp only at hSw); go_simp; try with_reducible rfl)
          try simp only [Act.put, List.setIfInBounds_toArray, List.set_cons_zero, List.set_cons_succ]
          refine held_take 9 (oi := { dst := some 63, op := Op.load 9 (Operand.tmp 62), type := 9, pos := "ref.go:231", after := #[{ on := 8, ground := Ground.data }, { on := 4, ground := Ground.guard }], guard := some (4, false) }) (v := ?_) (by kernel_rfl) rfl (by rfl) (by kernel_rfl) (by kernel_rfl) (fun _ _ _ h => h) ?_ (by assumption) ?_
          rotate_left
          · (intro w hSw; (try dsimp only at hSw); go_simp; try with_reducible rfl)
          try simp only [Act.put, List.setIfInBounds_toArray, List.set_cons_zero, List.set_cons_succ]
          refine held_one 7 (oi := { dst := some 61, op := Op.call { callee := Callee.value (Operand.func 28), args := #[Operand.tmp 60], argTypes := #[9] }, type := 9, pos := "ref.go:231", after := #[{ on := 6, ground := Ground.data }, { on := 4, ground := Ground.chain }, { on := 4, ground := Ground.guard }], guard := some (4, false) }) (by kernel_rfl) rfl (fun K hK => ?_)
          go_simp
          first
            | (go_at_call 26
               refine (unhide TK _).mono ?_
               rintro e V1 ⟨rfl, v1⟩
               have B7 := hide (show Below WB.heap.size WB V1 by rw [v1]; exact (Below.refl _ _).drew)
               clear v1)
            | (go_at_call 28
               refine (unhide LW _).mono ?_
               rintro e V2 ⟨rfl, v2⟩
               have B8 := chain B7 v2
               clear v2)
            | (go_at_call 27
               refine (unhide VL _).mono ?_
               rintro e V3 ⟨rfl, v3⟩
               have B9 := hide (show Below WB.heap.size WB V3 by rw [v3]; exact unhide B8)
               clear v3)
          go_wp2_with fail
          refine hK.out _ _ ?_ (fun hHeld => ?_)
          · try dsimp only
            first | (have hV : B9 = B9 := rfl; clear hV; exact ⟨cell_later (unhide B9) e0, cell_later (unhide B9) e1⟩) | (have hV : B8 = B8 := rfl; clear hV; exact ⟨cell_later (unhide B8) e0, cell_later (unhide B8) e1⟩) | (have hV : B7 = B7 := rfl; clear hV; exact ⟨cell_later (unhide B7) e0, cell_later (unhide B7) e1⟩) | exact ⟨e0, e1⟩
          clear hK K
          try simp only [Act.put, List.setIfInBounds_toArray, List.set_cons_zero, List.set_cons_succ]
          refine held_take 10 (oi := { dst := some 64, op := Op.binOp BinOp.neq 9 (Operand.tmp 61) (Operand.tmp 63) 9, type := 4, pos := "ref.go:231", after := #[{ on := 7, ground := Ground.data }, { on := 9, ground := Ground.data }, { on := 4, ground := Ground.guard }], guard := some (4, false) }) (v := ?_) (by kernel_rfl) rfl (by rfl) (by kernel_rfl) (by kernel_rfl) (fun _ _ _ h => h) ?_ (by assumption) ?_
          rotate_left
          · (intro w hSw; (try dsimp only at hSw); go_simp; try with_reducible rfl)
          try simp only [Act.put, List.setIfInBounds_toArray, List.set_cons_zero, List.set_cons_succ]
          refine held_take 11 (oi := { dst := some 65, op := Op.pick (Operand.tmp 58) (Operand.const (Value.bool true)) (Operand.tmp 64), type := 4, pos := "ref.go:231", after := #[{ on := 4, ground := Ground.data }, { on := 10, ground := Ground.data }], guard := none }) (v := ?_) (by kernel_rfl) rfl (by rfl) (by kernel_rfl) (by kernel_rfl) (fun _ _ _ h => h) ?_ (by assumption) ?_
          rotate_left
          · (intro w hSw; (try dsimp only at hSw); go_simp; try with_reducible rfl)
          try simp only [Act.put, List.setIfInBounds_toArray, List.set_cons_zero, List.set_cons_succ]
          refine held_take 12 (oi := { dst := some 66, op := Op.move (Operand.tmp 65), type := 4, pos := "ref.go:231", after := #[{ on := 11, ground := Ground.data }, { on := 7, ground := Ground.chain }], guard := none }) (v := ?_) (by kernel_rfl) rfl (by rfl) (by kernel_rfl) (by kernel_rfl) (fun _ _ _ h => h) ?_ (by assumption) ?_
          rotate_left
          · (intro w hSw; (try dsimp only at hSw); go_simp; try with_reducible rfl)
          try simp only [Act.put, List.setIfInBounds_toArray, List.set_cons_zero, List.set_cons_succ]
          refine held_take 13 (oi := { dst := some 67, op := Op.fieldAddr 43 (Operand.tmp 7) 1, type := 0, pos := "ref.go:231", after := #[{ on := 12, ground := Ground.guard }], guard := some (12, false) }) (v := ?_) (by kernel_rfl) rfl (by rfl) (by kernel_rfl) (by kernel_rfl) (fun _ _ _ h => h) ?_ (by assumption) ?_
          rotate_left
          · (intro w hSw; (try dsimp only at hSw); go_simp; try with_reducible rfl)
          try simp only [Act.put, List.setIfInBounds_toArray, List.set_cons_zero, List.set_cons_succ]
          refine held_take 14 (oi := { dst := some 68, op := Op.load 9 (Operand.tmp 67), type := 9, pos := "ref.go:231", after := #[{ on := 13, ground := Ground.data }, { on := 12, ground := Ground.guard }], guard := some (12, false) }) (v := ?_) (by kernel_rfl) rfl (by rfl) (by kernel_rfl) (by kernel_rfl) (fun _ _ _ h => h) ?_ (by assumption) ?_
          rotate_left
          · (intro w hSw; (try dsimp only at hSw); go_simp; try with_reducible rfl)
          try simp only [Act.put, List.setIfInBounds_toArray, List.set_cons_zero, List.set_cons_succ]
          refine held_one 15 (oi := { dst := some 69, op := Op.call { callee := Callee.value (Operand.func 27), args := #[Operand.tmp 68], argTypes := #[9] }, type := 4, pos := "ref.go:231", after := #[{ on := 14, ground := Ground.data }, { on := 12, ground := Ground.chain }, { on := 12, ground := Ground.guard }], guard := some (12, false) }) (by kernel_rfl) rfl (fun K hK => ?_)
          go_simp
          first
            | (go_at_call 26
               refine (unhide TK _).mono ?_
               rintro e V1 ⟨rfl, v1⟩
               have B7 := hide (show Below WB.heap.size WB V1 by rw [v1]; exact (Below.refl _ _).drew)
               clear v1)
            | (go_at_call 28
               refine (unhide LW _).mono ?_
               rintro e V2 ⟨rfl, v2⟩
               have B8 := chain B7 v2
               clear v2)
            | (go_at_call 27
               refine (unhide VL _).mono ?_
               rintro e V3 ⟨rfl, v3⟩
               have B9 := hide (show Below WB.heap.size WB V3 by rw [v3]; exact unhide B8)
               clear v3)
          go_wp2_with fail
          refine hK.out _ _ ?_ (fun hHeld => ?_)
          · try dsimp only
            first | (have hV : B9 = B9 := rfl; clear hV; exact ⟨cell_later (unhide B9) e0, cell_later (unhide B9) e1⟩) | (have hV : B8 = B8 := rfl; clear hV; exact ⟨cell_later (unhide B8) e0, cell_later (unhide B8) e1⟩) | (have hV : B7 = B7 := rfl; clear hV; exact ⟨cell_later (unhide B7) e0, cell_later (unhide B7) e1⟩) | exact ⟨e0, e1⟩
          clear hK K
          try simp only [Act.put, List.setIfInBounds_toArray, List.set_cons_zero, List.set_cons_succ]
          refine held_take 16 (oi := { dst := some 70, op := Op.unOp UnOp.not 4 (Operand.tmp 69), type := 4, pos := "ref.go:231", after := #[{ on := 15, ground := Ground.data }, { on := 12, ground := Ground.guard }], guard := some (12, false) }) (v := ?_) (by kernel_rfl) rfl (by rfl) (by kernel_rfl) (by kernel_rfl) (fun _ _ _ h => h) ?_ (by assumption) ?_
          rotate_left
          · (intro w hSw; (try dsimp only at hSw); go_simp; try with_reducible rfl)
          try simp only [Act.put, List.setIfInBounds_toArray, List.set_cons_zero, List.set_cons_succ]
          refine held_take 17 (oi := { dst := some 71, op := Op.pick (Operand.tmp 66) (Operand.const (Value.bool true)) (Operand.tmp 70), type := 4, pos := "ref.go:231", after := #[{ on := 12, ground := Ground.data }, { on := 16, ground := Ground.data }], guard := none }) (v := ?_) (by kernel_rfl) rfl (by rfl) (by kernel_rfl) (by kernel_rfl) (fun _ _ _ h => h) ?_ (by assumption) ?_
          rotate_left
          · (intro w hSw; (try dsimp only at hSw); go_simp; try with_reducible rfl)
          try simp only [Act.put, List.setIfInBounds_toArray, List.set_cons_zero, List.set_cons_succ]
          refine wpAnyH_done (by kernel_rfl) ?_ _
          have d0 := cell_later (unhide B9) e0
          have d1 := cell_later (unhide B9) e1
          go_wp2
          go_roundw
          case rel => exact ⟨j + 1, by omega, by rw [← unhide LT], by rw [unhide PS2], by first | rfl | (rw [hw]), PS1, hide ((unhide BW).trans ((unhide B9).mono (unhide BW).size))⟩
          case measure => simp [intOf]; omega
        | true =>
        have hnm : tn = hostName := eq_of_beq hhn
        rw [hhn] at hhe
        cases hvh : hostL tv with
        | none =>
          have NV := hide (unhide BH hnm (by rw [hvh]; exact fun e => by cases e))
          have HC2 := hide (show ∀ W, Calls Tryd.prog 17 #[.string (stS tv)] W fun e w' => e = .returned (.tuple #[.string ⟨#[]⟩, .bool false]) ∧ Below W.heap.size W w' from fun W => by have := unhide HC W; rwa [show hostV tv = .tuple #[.string ⟨#[]⟩, .bool false] by unfold hostV; rw [hvh]] at this)
          clear hhn hnm hvh WS2 WH2 BH FORM LIM OKW HC DN
          generalize stS (lowL tn) = sl at *
          generalize stS tn = sn at *
          generalize stS tv = sv at *
          generalize (hostsOf (h.fields.take j)).length = nh at *
          go_wp2_with fail
          generalize hWB : wr.alloc (.cells #[.string sn, .string sv] 43) = WB at *
          clear hWB
          refine wp_region_held_drew (S := fun w' => w'.cell? ⟨wr.heap.size, 0, none⟩ = some (.string sn) ∧ w'.cell? ⟨wr.heap.size, 1, none⟩ = some (.string sv)) (by kernel_rfl) ?_ (fun hHeld => ?_)
          · try dsimp only
            first | (have hV : B9 = B9 := rfl; clear hV; exact ⟨cell_later (unhide B9) e0, cell_later (unhide B9) e1⟩) | (have hV : B8 = B8 := rfl; clear hV; exact ⟨cell_later (unhide B8) e0, cell_later (unhide B8) e1⟩) | (have hV : B7 = B7 := rfl; clear hV; exact ⟨cell_later (unhide B7) e0, cell_later (unhide B7) e1⟩) | exact ⟨e0, e1⟩
          refine held_take 0 (oi := { dst := some 54, op := Op.fieldAddr 43 (Operand.tmp 7) 0, type := 0, pos := "ref.go:231", after := #[], guard := none }) (v := ?_) (by kernel_rfl) rfl (by rfl) (by kernel_rfl) (by kernel_rfl) (fun _ _ _ h => h) ?_ (by assumption) ?_
          rotate_left
          · (intro w hSw; (try dsimp only at hSw); go_simp; try with_reducible rfl)
          try simp only [Act.put, List.setIfInBounds_toArray, List.set_cons_zero, List.set_cons_succ]
          refine held_take 1 (oi := { dst := some 55, op := Op.load 9 (Operand.tmp 54), type := 9, pos := "ref.go:231", after := #[{ on := 0, ground := Ground.data }], guard := none }) (v := ?_) (by kernel_rfl) rfl (by rfl) (by kernel_rfl) (by kernel_rfl) (fun _ _ _ h => h) ?_ (by assumption) ?_
          rotate_left
          · (intro w hSw; (try dsimp only at hSw); go_simp; try with_reducible rfl)
          try simp only [Act.put, List.setIfInBounds_toArray, List.set_cons_zero, List.set_cons_succ]
          refine held_one 2 (oi := { dst := some 56, op := Op.call { callee := Callee.value (Operand.func 26), args := #[Operand.tmp 55], argTypes := #[9] }, type := 4, pos := "ref.go:231", after := #[{ on := 1, ground := Ground.data }], guard := none }) (by kernel_rfl) rfl (fun K hK => ?_)
          go_simp
          first
            | (go_at_call 26
               refine (unhide TK _).mono ?_
               rintro e V1 ⟨rfl, v1⟩
               have B7 := hide (show Below WB.heap.size WB V1 by rw [v1]; exact (Below.refl _ _).drew)
               clear v1)
            | (go_at_call 28
               refine (unhide LW _).mono ?_
               rintro e V2 ⟨rfl, v2⟩
               have B8 := chain B7 v2
               clear v2)
            | (go_at_call 27
               refine (unhide VL _).mono ?_
               rintro e V3 ⟨rfl, v3⟩
               have B9 := hide (show Below WB.heap.size WB V3 by rw [v3]; exact unhide B8)
               clear v3)
          go_wp2_with fail
          refine hK.out _ _ ?_ (fun hHeld => ?_)
          · try dsimp only
            first | (have hV : B9 = B9 := rfl; clear hV; exact ⟨cell_later (unhide B9) e0, cell_later (unhide B9) e1⟩) | (have hV : B8 = B8 := rfl; clear hV; exact ⟨cell_later (unhide B8) e0, cell_later (unhide B8) e1⟩) | (have hV : B7 = B7 := rfl; clear hV; exact ⟨cell_later (unhide B7) e0, cell_later (unhide B7) e1⟩) | exact ⟨e0, e1⟩
          clear hK K
          try simp only [Act.put, List.setIfInBounds_toArray, List.set_cons_zero, List.set_cons_succ]
          refine held_take 3 (oi := { dst := some 57, op := Op.unOp UnOp.not 4 (Operand.tmp 56), type := 4, pos := "ref.go:231", after := #[{ on := 2, ground := Ground.data }], guard := none }) (v := ?_) (by kernel_rfl) rfl (by rfl) (by kernel_rfl) (by kernel_rfl) (fun _ _ _ h => h) ?_ (by assumption) ?_
          rotate_left
          · (intro w hSw; (try dsimp only at hSw); go_simp; try with_reducible rfl)
          try simp only [Act.put, List.setIfInBounds_toArray, List.set_cons_zero, List.set_cons_succ]
          refine held_take 4 (oi := { dst := some 58, op := Op.move (Operand.tmp 57), type := 4, pos := "ref.go:231", after := #[{ on := 3, ground := Ground.data }, { on := 2, ground := Ground.chain }], guard := none }) (v := ?_) (by kernel_rfl) rfl (by rfl) (by kernel_rfl) (by kernel_rfl) (fun _ _ _ h => h) ?_ (by assumption) ?_
          rotate_left
          · (intro w hSw; (try dsimp only at hSw); go_simp; try with_reducible rfl)
          try simp only [Act.put, List.setIfInBounds_toArray, List.set_cons_zero, List.set_cons_succ]
          refine held_take 5 (oi := { dst := some 59, op := Op.fieldAddr 43 (Operand.tmp 7) 0, type := 0, pos := "ref.go:231", after := #[{ on := 4, ground := Ground.guard }], guard := some (4, false) }) (v := ?_) (by kernel_rfl) rfl (by rfl) (by kernel_rfl) (by kernel_rfl) (fun _ _ _ h => h) ?_ (by assumption) ?_
          rotate_left
          · (intro w hSw; (try dsimp only at hSw); go_simp; try with_reducible rfl)
          try simp only [Act.put, List.setIfInBounds_toArray, List.set_cons_zero, List.set_cons_succ]
          refine held_take 6 (oi := { dst := some 60, op := Op.load 9 (Operand.tmp 59), type := 9, pos := "ref.go:231", after := #[{ on := 5, ground := Ground.data }, { on := 4, ground := Ground.guard }], guard := some (4, false) }) (v := ?_) (by kernel_rfl) rfl (by rfl) (by kernel_rfl) (by kernel_rfl) (fun _ _ _ h => h) ?_ (by assumption) ?_
          rotate_left
          · (intro w hSw; (try dsimp only at hSw); go_simp; try with_reducible rfl)
          try simp only [Act.put, List.setIfInBounds_toArray, List.set_cons_zero, List.set_cons_succ]
          refine held_take 8 (oi := { dst := some 62, op := Op.fieldAddr 43 (Operand.tmp 7) 0, type := 0, pos := "ref.go:231", after := #[{ on := 4, ground := Ground.guard }], guard := some (4, false) }) (v := ?_) (by kernel_rfl) rfl (by rfl) (by kernel_rfl) (by kernel_rfl) (fun _ _ _ h => h) ?_ (by assumption) ?_
          rotate_left
          · (intro w hSw; (try dsimp only at hSw); go_simp; try with_reducible rfl)
          try simp only [Act.put, List.setIfInBounds_toArray, List.set_cons_zero, List.set_cons_succ]
          refine held_take 9 (oi := { dst := some 63, op := Op.load 9 (Operand.tmp 62), type := 9, pos := "ref.go:231", after := #[{ on := 8, ground := Ground.data }, { on := 4, ground := Ground.guard }], guard := some (4, false) }) (v := ?_) (by kernel_rfl) rfl (by rfl) (by kernel_rfl) (by kernel_rfl) (fun _ _ _ h => h) ?_ (by assumption) ?_
          rotate_left
          · (intro w hSw; (try dsimp only at hSw); go_simp; try with_reducible rfl)
          try simp only [Act.put, List.setIfInBounds_toArray, List.set_cons_zero, List.set_cons_succ]
          refine held_one 7 (oi := { dst := some 61, op := Op.call { callee := Callee.value (Operand.func 28), args := #[Operand.tmp 60], argTypes := #[9] }, type := 9, pos := "ref.go:231", after := #[{ on := 6, ground := Ground.data }, { on := 4, ground := Ground.chain }, { on := 4, ground := Ground.guard }], guard := some (4, false) }) (by kernel_rfl) rfl (fun K hK => ?_)
          go_simp
          first
            | (go_at_call 26
               refine (unhide TK _).mono ?_
               rintro e V1 ⟨rfl, v1⟩
               have B7 := hide (show Below WB.heap.size WB V1 by rw [v1]; exact (Below.refl _ _).drew)
               clear v1)
            | (go_at_call 28
               refine (unhide LW _).mono ?_
               rintro e V2 ⟨rfl, v2⟩
               have B8 := chain B7 v2
               clear v2)
            | (go_at_call 27
               refine (unhide VL _).mono ?_
               rintro e V3 ⟨rfl, v3⟩
               have B9 := hide (show Below WB.heap.size WB V3 by rw [v3]; exact unhide B8)
               clear v3)
          go_wp2_with fail
          refine hK.out _ _ ?_ (fun hHeld => ?_)
          · try dsimp only
            first | (have hV : B9 = B9 := rfl; clear hV; exact ⟨cell_later (unhide B9) e0, cell_later (unhide B9) e1⟩) | (have hV : B8 = B8 := rfl; clear hV; exact ⟨cell_later (unhide B8) e0, cell_later (unhide B8) e1⟩) | (have hV : B7 = B7 := rfl; clear hV; exact ⟨cell_later (unhide B7) e0, cell_later (unhide B7) e1⟩) | exact ⟨e0, e1⟩
          clear hK K
          try simp only [Act.put, List.setIfInBounds_toArray, List.set_cons_zero, List.set_cons_succ]
          refine held_take 10 (oi := { dst := some 64, op := Op.binOp BinOp.neq 9 (Operand.tmp 61) (Operand.tmp 63) 9, type := 4, pos := "ref.go:231", after := #[{ on := 7, ground := Ground.data }, { on := 9, ground := Ground.data }, { on := 4, ground := Ground.guard }], guard := some (4, false) }) (v := ?_) (by kernel_rfl) rfl (by rfl) (by kernel_rfl) (by kernel_rfl) (fun _ _ _ h => h) ?_ (by assumption) ?_
          rotate_left
          · (intro w hSw; (try dsimp only at hSw); go_simp; try with_reducible rfl)
          try simp only [Act.put, List.setIfInBounds_toArray, List.set_cons_zero, List.set_cons_succ]
          refine held_take 11 (oi := { dst := some 65, op := Op.pick (Operand.tmp 58) (Operand.const (Value.bool true)) (Operand.tmp 64), type := 4, pos := "ref.go:231", after := #[{ on := 4, ground := Ground.data }, { on := 10, ground := Ground.data }], guard := none }) (v := ?_) (by kernel_rfl) rfl (by rfl) (by kernel_rfl) (by kernel_rfl) (fun _ _ _ h => h) ?_ (by assumption) ?_
          rotate_left
          · (intro w hSw; (try dsimp only at hSw); go_simp; try with_reducible rfl)
          try simp only [Act.put, List.setIfInBounds_toArray, List.set_cons_zero, List.set_cons_succ]
          refine held_take 12 (oi := { dst := some 66, op := Op.move (Operand.tmp 65), type := 4, pos := "ref.go:231", after := #[{ on := 11, ground := Ground.data }, { on := 7, ground := Ground.chain }], guard := none }) (v := ?_) (by kernel_rfl) rfl (by rfl) (by kernel_rfl) (by kernel_rfl) (fun _ _ _ h => h) ?_ (by assumption) ?_
          rotate_left
          · (intro w hSw; (try dsimp only at hSw); go_simp; try with_reducible rfl)
          try simp only [Act.put, List.setIfInBounds_toArray, List.set_cons_zero, List.set_cons_succ]
          refine held_take 13 (oi := { dst := some 67, op := Op.fieldAddr 43 (Operand.tmp 7) 1, type := 0, pos := "ref.go:231", after := #[{ on := 12, ground := Ground.guard }], guard := some (12, false) }) (v := ?_) (by kernel_rfl) rfl (by rfl) (by kernel_rfl) (by kernel_rfl) (fun _ _ _ h => h) ?_ (by assumption) ?_
          rotate_left
          · (intro w hSw; (try dsimp only at hSw); go_simp; try with_reducible rfl)
          try simp only [Act.put, List.setIfInBounds_toArray, List.set_cons_zero, List.set_cons_succ]
          refine held_take 14 (oi := { dst := some 68, op := Op.load 9 (Operand.tmp 67), type := 9, pos := "ref.go:231", after := #[{ on := 13, ground := Ground.data }, { on := 12, ground := Ground.guard }], guard := some (12, false) }) (v := ?_) (by kernel_rfl) rfl (by rfl) (by kernel_rfl) (by kernel_rfl) (fun _ _ _ h => h) ?_ (by assumption) ?_
          rotate_left
          · (intro w hSw; (try dsimp only at hSw); go_simp; try with_reducible rfl)
          try simp only [Act.put, List.setIfInBounds_toArray, List.set_cons_zero, List.set_cons_succ]
          refine held_one 15 (oi := { dst := some 69, op := Op.call { callee := Callee.value (Operand.func 27), args := #[Operand.tmp 68], argTypes := #[9] }, type := 4, pos := "ref.go:231", after := #[{ on := 14, ground := Ground.data }, { on := 12, ground := Ground.chain }, { on := 12, ground := Ground.guard }], guard := some (12, false) }) (by kernel_rfl) rfl (fun K hK => ?_)
          go_simp
          first
            | (go_at_call 26
               refine (unhide TK _).mono ?_
               rintro e V1 ⟨rfl, v1⟩
               have B7 := hide (show Below WB.heap.size WB V1 by rw [v1]; exact (Below.refl _ _).drew)
               clear v1)
            | (go_at_call 28
               refine (unhide LW _).mono ?_
               rintro e V2 ⟨rfl, v2⟩
               have B8 := chain B7 v2
               clear v2)
            | (go_at_call 27
               refine (unhide VL _).mono ?_
               rintro e V3 ⟨rfl, v3⟩
               have B9 := hide (show Below WB.heap.size WB V3 by rw [v3]; exact unhide B8)
               clear v3)
          go_wp2_with fail
          refine hK.out _ _ ?_ (fun hHeld => ?_)
          · try dsimp only
            first | (have hV : B9 = B9 := rfl; clear hV; exact ⟨cell_later (unhide B9) e0, cell_later (unhide B9) e1⟩) | (have hV : B8 = B8 := rfl; clear hV; exact ⟨cell_later (unhide B8) e0, cell_later (unhide B8) e1⟩) | (have hV : B7 = B7 := rfl; clear hV; exact ⟨cell_later (unhide B7) e0, cell_later (unhide B7) e1⟩) | exact ⟨e0, e1⟩
          clear hK K
          try simp only [Act.put, List.setIfInBounds_toArray, List.set_cons_zero, List.set_cons_succ]
          refine held_take 16 (oi := { dst := some 70, op := Op.unOp UnOp.not 4 (Operand.tmp 69), type := 4, pos := "ref.go:231", after := #[{ on := 15, ground := Ground.data }, { on := 12, ground := Ground.guard }], guard := some (12, false) }) (v := ?_) (by kernel_rfl) rfl (by rfl) (by kernel_rfl) (by kernel_rfl) (fun _ _ _ h => h) ?_ (by assumption) ?_
          rotate_left
          · (intro w hSw; (try dsimp only at hSw); go_simp; try with_reducible rfl)
          try simp only [Act.put, List.setIfInBounds_toArray, List.set_cons_zero, List.set_cons_succ]
          refine held_take 17 (oi := { dst := some 71, op := Op.pick (Operand.tmp 66) (Operand.const (Value.bool true)) (Operand.tmp 70), type := 4, pos := "ref.go:231", after := #[{ on := 12, ground := Ground.data }, { on := 16, ground := Ground.data }], guard := none }) (v := ?_) (by kernel_rfl) rfl (by rfl) (by kernel_rfl) (by kernel_rfl) (fun _ _ _ h => h) ?_ (by assumption) ?_
          rotate_left
          · (intro w hSw; (try dsimp only at hSw); go_simp; try with_reducible rfl)
          try simp only [Act.put, List.setIfInBounds_toArray, List.set_cons_zero, List.set_cons_succ]
          refine wpAnyH_done (by kernel_rfl) ?_ _
          have d0 := cell_later (unhide B9) e0
          have d1 := cell_later (unhide B9) e1
          go_wp2_with (go_at_call 17; refine (unhide HC2 _).mono ?_; rintro e V4 ⟨rfl, v4⟩; have B10 := chain B9 v4; clear v4)
          go_ret2
          exact ⟨unhide NV _, (unhide FW).trans ((unhide B10).mono (unhide FW).size)⟩
        | some y =>
          have HC2 := hide (show ∀ W, Calls Tryd.prog 17 #[.string (stS tv)] W fun e w' => e = .returned (.tuple #[.string (stS y), .bool true]) ∧ Below W.heap.size W w' from fun W => by have := unhide HC W; rwa [show hostV tv = .tuple #[.string (stS y), .bool true] by unfold hostV; rw [hvh]] at this)
          have hyq := str_eqL y h.host
          have hyz : (stS y).size ≤ 9223372036854775807 := by have := hostL_len hvh; rw [stS_size]; omega
          cases hye : (y == h.host) with
          | false =>
            have NV := hide (unhide BH hnm (by rw [hvh]; exact fun e => by rw [Option.some.inj e, beq_self_eq_true] at hye; cases hye))
            rw [hye] at hyq
            clear hhn hnm hvh hye WS2 WH2 BH FORM LIM OKW HC DN
            generalize stS (lowL tn) = sl at *
            generalize stS tn = sn at *
            generalize stS tv = sv at *
            generalize (hostsOf (h.fields.take j)).length = nh at *
            generalize stS y = sy at *
            go_wp2_with fail
            generalize hWB : wr.alloc (.cells #[.string sn, .string sv] 43) = WB at *
            clear hWB
            refine wp_region_held_drew (S := fun w' => w'.cell? ⟨wr.heap.size, 0, none⟩ = some (.string sn) ∧ w'.cell? ⟨wr.heap.size, 1, none⟩ = some (.string sv)) (by kernel_rfl) ?_ (fun hHeld => ?_)
            · try dsimp only
              first | (have hV : B9 = B9 := rfl; clear hV; exact ⟨cell_later (unhide B9) e0, cell_later (unhide B9) e1⟩) | (have hV : B8 = B8 := rfl; clear hV; exact ⟨cell_later (unhide B8) e0, cell_later (unhide B8) e1⟩) | (have hV : B7 = B7 := rfl; clear hV; exact ⟨cell_later (unhide B7) e0, cell_later (unhide B7) e1⟩) | exact ⟨e0, e1⟩
            refine held_take 0 (oi := { dst := some 54, op := Op.fieldAddr 43 (Operand.tmp 7) 0, type := 0, pos := "ref.go:231", after := #[], guard := none }) (v := ?_) (by kernel_rfl) rfl (by rfl) (by kernel_rfl) (by kernel_rfl) (fun _ _ _ h => h) ?_ (by assumption) ?_
            rotate_left
            · (intro w hSw; (try dsimp only at hSw); go_simp; try with_reducible rfl)
            try simp only [Act.put, List.setIfInBounds_toArray, List.set_cons_zero, List.set_cons_succ]
            refine held_take 1 (oi := { dst := some 55, op := Op.load 9 (Operand.tmp 54), type := 9, pos := "ref.go:231", after := #[{ on := 0, ground := Ground.data }], guard := none }) (v := ?_) (by kernel_rfl) rfl (by rfl) (by kernel_rfl) (by kernel_rfl) (fun _ _ _ h => h) ?_ (by assumption) ?_
            rotate_left
            · (intro w hSw; (try dsimp only at hSw); go_simp; try with_reducible rfl)
            try simp only [Act.put, List.setIfInBounds_toArray, List.set_cons_zero, List.set_cons_succ]
            refine held_one 2 (oi := { dst := some 56, op := Op.call { callee := Callee.value (Operand.func 26), args := #[Operand.tmp 55], argTypes := #[9] }, type := 4, pos := "ref.go:231", after := #[{ on := 1, ground := Ground.data }], guard := none }) (by kernel_rfl) rfl (fun K hK => ?_)
            go_simp
            first
              | (go_at_call 26
                 refine (unhide TK _).mono ?_
                 rintro e V1 ⟨rfl, v1⟩
                 have B7 := hide (show Below WB.heap.size WB V1 by rw [v1]; exact (Below.refl _ _).drew)
                 clear v1)
              | (go_at_call 28
                 refine (unhide LW _).mono ?_
                 rintro e V2 ⟨rfl, v2⟩
                 have B8 := chain B7 v2
                 clear v2)
              | (go_at_call 27
                 refine (unhide VL _).mono ?_
                 rintro e V3 ⟨rfl, v3⟩
                 have B9 := hide (show Below WB.heap.size WB V3 by rw [v3]; exact unhide B8)
                 clear v3)
            go_wp2_with fail
            refine hK.out _ _ ?_ (fun hHeld => ?_)
            · try dsimp only
              first | (have hV : B9 = B9 := rfl; clear hV; exact ⟨cell_later (unhide B9) e0, cell_later (unhide B9) e1⟩) | (have hV : B8 = B8 := rfl; clear hV; exact ⟨cell_later (unhide B8) e0, cell_later (unhide B8) e1⟩) | (have hV : B7 = B7 := rfl; clear hV; exact ⟨cell_later (unhide B7) e0, cell_later (unhide B7) e1⟩) | exact ⟨e0, e1⟩
            clear hK K
            try simp only [Act.put, List.setIfInBounds_toArray, List.set_cons_zero, List.set_cons_succ]
            refine held_take 3 (oi := { dst := some 57, op := Op.unOp UnOp.not 4 (Operand.tmp 56), type := 4, pos := "ref.go:231", after := #[{ on := 2, ground := Ground.data }], guard := none }) (v := ?_) (by kernel_rfl) rfl (by rfl) (by kernel_rfl) (by kernel_rfl) (fun _ _ _ h => h) ?_ (by assumption) ?_
            rotate_left
            · (intro w hSw; (try dsimp only at hSw); go_simp; try with_reducible rfl)
            try simp only [Act.put, List.setIfInBounds_toArray, List.set_cons_zero, List.set_cons_succ]
            refine held_take 4 (oi := { dst := some 58, op := Op.move (Operand.tmp 57), type := 4, pos := "ref.go:231", after := #[{ on := 3, ground := Ground.data }, { on := 2, ground := Ground.chain }], guard := none }) (v := ?_) (by kernel_rfl) rfl (by rfl) (by kernel_rfl) (by kernel_rfl) (fun _ _ _ h => h) ?_ (by assumption) ?_
            rotate_left
            · (intro w hSw; (try dsimp only at hSw); go_simp; try with_reducible rfl)
            try simp only [Act.put, List.setIfInBounds_toArray, List.set_cons_zero, List.set_cons_succ]
            refine held_take 5 (oi := { dst := some 59, op := Op.fieldAddr 43 (Operand.tmp 7) 0, type := 0, pos := "ref.go:231", after := #[{ on := 4, ground := Ground.guard }], guard := some (4, false) }) (v := ?_) (by kernel_rfl) rfl (by rfl) (by kernel_rfl) (by kernel_rfl) (fun _ _ _ h => h) ?_ (by assumption) ?_
            rotate_left
            · (intro w hSw; (try dsimp only at hSw); go_simp; try with_reducible rfl)
            try simp only [Act.put, List.setIfInBounds_toArray, List.set_cons_zero, List.set_cons_succ]
            refine held_take 6 (oi := { dst := some 60, op := Op.load 9 (Operand.tmp 59), type := 9, pos := "ref.go:231", after := #[{ on := 5, ground := Ground.data }, { on := 4, ground := Ground.guard }], guard := some (4, false) }) (v := ?_) (by kernel_rfl) rfl (by rfl) (by kernel_rfl) (by kernel_rfl) (fun _ _ _ h => h) ?_ (by assumption) ?_
            rotate_left
            · (intro w hSw; (try dsimp only at hSw); go_simp; try with_reducible rfl)
            try simp only [Act.put, List.setIfInBounds_toArray, List.set_cons_zero, List.set_cons_succ]
            refine held_take 8 (oi := { dst := some 62, op := Op.fieldAddr 43 (Operand.tmp 7) 0, type := 0, pos := "ref.go:231", after := #[{ on := 4, ground := Ground.guard }], guard := some (4, false) }) (v := ?_) (by kernel_rfl) rfl (by rfl) (by kernel_rfl) (by kernel_rfl) (fun _ _ _ h => h) ?_ (by assumption) ?_
            rotate_left
            · (intro w hSw; (try dsimp only at hSw); go_simp; try with_reducible rfl)
            try simp only [Act.put, List.setIfInBounds_toArray, List.set_cons_zero, List.set_cons_succ]
            refine held_take 9 (oi := { dst := some 63, op := Op.load 9 (Operand.tmp 62), type := 9, pos := "ref.go:231", after := #[{ on := 8, ground := Ground.data }, { on := 4, ground := Ground.guard }], guard := some (4, false) }) (v := ?_) (by kernel_rfl) rfl (by rfl) (by kernel_rfl) (by kernel_rfl) (fun _ _ _ h => h) ?_ (by assumption) ?_
            rotate_left
            · (intro w hSw; (try dsimp only at hSw); go_simp; try with_reducible rfl)
            try simp only [Act.put, List.setIfInBounds_toArray, List.set_cons_zero, List.set_cons_succ]
            refine held_one 7 (oi := { dst := some 61, op := Op.call { callee := Callee.value (Operand.func 28), args := #[Operand.tmp 60], argTypes := #[9] }, type := 9, pos := "ref.go:231", after := #[{ on := 6, ground := Ground.data }, { on := 4, ground := Ground.chain }, { on := 4, ground := Ground.guard }], guard := some (4, false) }) (by kernel_rfl) rfl (fun K hK => ?_)
            go_simp
            first
              | (go_at_call 26
                 refine (unhide TK _).mono ?_
                 rintro e V1 ⟨rfl, v1⟩
                 have B7 := hide (show Below WB.heap.size WB V1 by rw [v1]; exact (Below.refl _ _).drew)
                 clear v1)
              | (go_at_call 28
                 refine (unhide LW _).mono ?_
                 rintro e V2 ⟨rfl, v2⟩
                 have B8 := chain B7 v2
                 clear v2)
              | (go_at_call 27
                 refine (unhide VL _).mono ?_
                 rintro e V3 ⟨rfl, v3⟩
                 have B9 := hide (show Below WB.heap.size WB V3 by rw [v3]; exact unhide B8)
                 clear v3)
            go_wp2_with fail
            refine hK.out _ _ ?_ (fun hHeld => ?_)
            · try dsimp only
              first | (have hV : B9 = B9 := rfl; clear hV; exact ⟨cell_later (unhide B9) e0, cell_later (unhide B9) e1⟩) | (have hV : B8 = B8 := rfl; clear hV; exact ⟨cell_later (unhide B8) e0, cell_later (unhide B8) e1⟩) | (have hV : B7 = B7 := rfl; clear hV; exact ⟨cell_later (unhide B7) e0, cell_later (unhide B7) e1⟩) | exact ⟨e0, e1⟩
            clear hK K
            try simp only [Act.put, List.setIfInBounds_toArray, List.set_cons_zero, List.set_cons_succ]
            refine held_take 10 (oi := { dst := some 64, op := Op.binOp BinOp.neq 9 (Operand.tmp 61) (Operand.tmp 63) 9, type := 4, pos := "ref.go:231", after := #[{ on := 7, ground := Ground.data }, { on := 9, ground := Ground.data }, { on := 4, ground := Ground.guard }], guard := some (4, false) }) (v := ?_) (by kernel_rfl) rfl (by rfl) (by kernel_rfl) (by kernel_rfl) (fun _ _ _ h => h) ?_ (by assumption) ?_
            rotate_left
            · (intro w hSw; (try dsimp only at hSw); go_simp; try with_reducible rfl)
            try simp only [Act.put, List.setIfInBounds_toArray, List.set_cons_zero, List.set_cons_succ]
            refine held_take 11 (oi := { dst := some 65, op := Op.pick (Operand.tmp 58) (Operand.const (Value.bool true)) (Operand.tmp 64), type := 4, pos := "ref.go:231", after := #[{ on := 4, ground := Ground.data }, { on := 10, ground := Ground.data }], guard := none }) (v := ?_) (by kernel_rfl) rfl (by rfl) (by kernel_rfl) (by kernel_rfl) (fun _ _ _ h => h) ?_ (by assumption) ?_
            rotate_left
            · (intro w hSw; (try dsimp only at hSw); go_simp; try with_reducible rfl)
            try simp only [Act.put, List.setIfInBounds_toArray, List.set_cons_zero, List.set_cons_succ]
            refine held_take 12 (oi := { dst := some 66, op := Op.move (Operand.tmp 65), type := 4, pos := "ref.go:231", after := #[{ on := 11, ground := Ground.data }, { on := 7, ground := Ground.chain }], guard := none }) (v := ?_) (by kernel_rfl) rfl (by rfl) (by kernel_rfl) (by kernel_rfl) (fun _ _ _ h => h) ?_ (by assumption) ?_
            rotate_left
            · (intro w hSw; (try dsimp only at hSw); go_simp; try with_reducible rfl)
            try simp only [Act.put, List.setIfInBounds_toArray, List.set_cons_zero, List.set_cons_succ]
            refine held_take 13 (oi := { dst := some 67, op := Op.fieldAddr 43 (Operand.tmp 7) 1, type := 0, pos := "ref.go:231", after := #[{ on := 12, ground := Ground.guard }], guard := some (12, false) }) (v := ?_) (by kernel_rfl) rfl (by rfl) (by kernel_rfl) (by kernel_rfl) (fun _ _ _ h => h) ?_ (by assumption) ?_
            rotate_left
            · (intro w hSw; (try dsimp only at hSw); go_simp; try with_reducible rfl)
            try simp only [Act.put, List.setIfInBounds_toArray, List.set_cons_zero, List.set_cons_succ]
            refine held_take 14 (oi := { dst := some 68, op := Op.load 9 (Operand.tmp 67), type := 9, pos := "ref.go:231", after := #[{ on := 13, ground := Ground.data }, { on := 12, ground := Ground.guard }], guard := some (12, false) }) (v := ?_) (by kernel_rfl) rfl (by rfl) (by kernel_rfl) (by kernel_rfl) (fun _ _ _ h => h) ?_ (by assumption) ?_
            rotate_left
            · (intro w hSw; (try dsimp only at hSw); go_simp; try with_reducible rfl)
            try simp only [Act.put, List.setIfInBounds_toArray, List.set_cons_zero, List.set_cons_succ]
            refine held_one 15 (oi := { dst := some 69, op := Op.call { callee := Callee.value (Operand.func 27), args := #[Operand.tmp 68], argTypes := #[9] }, type := 4, pos := "ref.go:231", after := #[{ on := 14, ground := Ground.data }, { on := 12, ground := Ground.chain }, { on := 12, ground := Ground.guard }], guard := some (12, false) }) (by kernel_rfl) rfl (fun K hK => ?_)
            go_simp
            first
              | (go_at_call 26
                 refine (unhide TK _).mono ?_
                 rintro e V1 ⟨rfl, v1⟩
                 have B7 := hide (show Below WB.heap.size WB V1 by rw [v1]; exact (Below.refl _ _).drew)
                 clear v1)
              | (go_at_call 28
                 refine (unhide LW _).mono ?_
                 rintro e V2 ⟨rfl, v2⟩
                 have B8 := chain B7 v2
                 clear v2)
              | (go_at_call 27
                 refine (unhide VL _).mono ?_
                 rintro e V3 ⟨rfl, v3⟩
                 have B9 := hide (show Below WB.heap.size WB V3 by rw [v3]; exact unhide B8)
                 clear v3)
            go_wp2_with fail
            refine hK.out _ _ ?_ (fun hHeld => ?_)
            · try dsimp only
              first | (have hV : B9 = B9 := rfl; clear hV; exact ⟨cell_later (unhide B9) e0, cell_later (unhide B9) e1⟩) | (have hV : B8 = B8 := rfl; clear hV; exact ⟨cell_later (unhide B8) e0, cell_later (unhide B8) e1⟩) | (have hV : B7 = B7 := rfl; clear hV; exact ⟨cell_later (unhide B7) e0, cell_later (unhide B7) e1⟩) | exact ⟨e0, e1⟩
            clear hK K
            try simp only [Act.put, List.setIfInBounds_toArray, List.set_cons_zero, List.set_cons_succ]
            refine held_take 16 (oi := { dst := some 70, op := Op.unOp UnOp.not 4 (Operand.tmp 69), type := 4, pos := "ref.go:231", after := #[{ on := 15, ground := Ground.data }, { on := 12, ground := Ground.guard }], guard := some (12, false) }) (v := ?_) (by kernel_rfl) rfl (by rfl) (by kernel_rfl) (by kernel_rfl) (fun _ _ _ h => h) ?_ (by assumption) ?_
            rotate_left
            · (intro w hSw; (try dsimp only at hSw); go_simp; try with_reducible rfl)
            try simp only [Act.put, List.setIfInBounds_toArray, List.set_cons_zero, List.set_cons_succ]
            refine held_take 17 (oi := { dst := some 71, op := Op.pick (Operand.tmp 66) (Operand.const (Value.bool true)) (Operand.tmp 70), type := 4, pos := "ref.go:231", after := #[{ on := 12, ground := Ground.data }, { on := 16, ground := Ground.data }], guard := none }) (v := ?_) (by kernel_rfl) rfl (by rfl) (by kernel_rfl) (by kernel_rfl) (fun _ _ _ h => h) ?_ (by assumption) ?_
            rotate_left
            · (intro w hSw; (try dsimp only at hSw); go_simp; try with_reducible rfl)
            try simp only [Act.put, List.setIfInBounds_toArray, List.set_cons_zero, List.set_cons_succ]
            refine wpAnyH_done (by kernel_rfl) ?_ _
            have d0 := cell_later (unhide B9) e0
            have d1 := cell_later (unhide B9) e1
            have d3 := cell_later (unhide B9) m3
            go_wp2_with (go_at_call 17; refine (unhide HC2 _).mono ?_; rintro e V4 ⟨rfl, v4⟩; have B10 := chain B9 v4; have d4 := cell_later v4 d3; clear v4)
            go_ret2
            exact ⟨unhide NV _, (unhide FW).trans ((unhide B10).mono (unhide FW).size)⟩
          | true =>
            have PF := unhide WH2 hnm (by rw [hvh, eq_of_beq hye])
            have PS1 := hide PF.1
            have PS2 := hide PF.2
            rw [hye] at hyq
            clear hhn hnm hvh hye PF WS2 WH2 BH FORM LIM OKW HC DN
            generalize stS (lowL tn) = sl at *
            generalize stS tn = sn at *
            generalize stS tv = sv at *
            generalize (hostsOf (h.fields.take j)).length = nh at *
            generalize stS y = sy at *
            go_wp2_with fail
            generalize hWB : wr.alloc (.cells #[.string sn, .string sv] 43) = WB at *
            clear hWB
            refine wp_region_held_drew (S := fun w' => w'.cell? ⟨wr.heap.size, 0, none⟩ = some (.string sn) ∧ w'.cell? ⟨wr.heap.size, 1, none⟩ = some (.string sv)) (by kernel_rfl) ?_ (fun hHeld => ?_)
            · try dsimp only
              first | (have hV : B9 = B9 := rfl; clear hV; exact ⟨cell_later (unhide B9) e0, cell_later (unhide B9) e1⟩) | (have hV : B8 = B8 := rfl; clear hV; exact ⟨cell_later (unhide B8) e0, cell_later (unhide B8) e1⟩) | (have hV : B7 = B7 := rfl; clear hV; exact ⟨cell_later (unhide B7) e0, cell_later (unhide B7) e1⟩) | exact ⟨e0, e1⟩
            refine held_take 0 (oi := { dst := some 54, op := Op.fieldAddr 43 (Operand.tmp 7) 0, type := 0, pos := "ref.go:231", after := #[], guard := none }) (v := ?_) (by kernel_rfl) rfl (by rfl) (by kernel_rfl) (by kernel_rfl) (fun _ _ _ h => h) ?_ (by assumption) ?_
            rotate_left
            · (intro w hSw; (try dsimp only at hSw); go_simp; try with_reducible rfl)
            try simp only [Act.put, List.setIfInBounds_toArray, List.set_cons_zero, List.set_cons_succ]
            refine held_take 1 (oi := { dst := some 55, op := Op.load 9 (Operand.tmp 54), type := 9, pos := "ref.go:231", after := #[{ on := 0, ground := Ground.data }], guard := none }) (v := ?_) (by kernel_rfl) rfl (by rfl) (by kernel_rfl) (by kernel_rfl) (fun _ _ _ h => h) ?_ (by assumption) ?_
            rotate_left
            · (intro w hSw; (try dsimp only at hSw); go_simp; try with_reducible rfl)
            try simp only [Act.put, List.setIfInBounds_toArray, List.set_cons_zero, List.set_cons_succ]
            refine held_one 2 (oi := { dst := some 56, op := Op.call { callee := Callee.value (Operand.func 26), args := #[Operand.tmp 55], argTypes := #[9] }, type := 4, pos := "ref.go:231", after := #[{ on := 1, ground := Ground.data }], guard := none }) (by kernel_rfl) rfl (fun K hK => ?_)
            go_simp
            first
              | (go_at_call 26
                 refine (unhide TK _).mono ?_
                 rintro e V1 ⟨rfl, v1⟩
                 have B7 := hide (show Below WB.heap.size WB V1 by rw [v1]; exact (Below.refl _ _).drew)
                 clear v1)
              | (go_at_call 28
                 refine (unhide LW _).mono ?_
                 rintro e V2 ⟨rfl, v2⟩
                 have B8 := chain B7 v2
                 clear v2)
              | (go_at_call 27
                 refine (unhide VL _).mono ?_
                 rintro e V3 ⟨rfl, v3⟩
                 have B9 := hide (show Below WB.heap.size WB V3 by rw [v3]; exact unhide B8)
                 clear v3)
            go_wp2_with fail
            refine hK.out _ _ ?_ (fun hHeld => ?_)
            · try dsimp only
              first | (have hV : B9 = B9 := rfl; clear hV; exact ⟨cell_later (unhide B9) e0, cell_later (unhide B9) e1⟩) | (have hV : B8 = B8 := rfl; clear hV; exact ⟨cell_later (unhide B8) e0, cell_later (unhide B8) e1⟩) | (have hV : B7 = B7 := rfl; clear hV; exact ⟨cell_later (unhide B7) e0, cell_later (unhide B7) e1⟩) | exact ⟨e0, e1⟩
            clear hK K
            try simp only [Act.put, List.setIfInBounds_toArray, List.set_cons_zero, List.set_cons_succ]
            refine held_take 3 (oi := { dst := some 57, op := Op.unOp UnOp.not 4 (Operand.tmp 56), type := 4, pos := "ref.go:231", after := #[{ on := 2, ground := Ground.data }], guard := none }) (v := ?_) (by kernel_rfl) rfl (by rfl) (by kernel_rfl) (by kernel_rfl) (fun _ _ _ h => h) ?_ (by assumption) ?_
            rotate_left
            · (intro w hSw; (try dsimp only at hSw); go_simp; try with_reducible rfl)
            try simp only [Act.put, List.setIfInBounds_toArray, List.set_cons_zero, List.set_cons_succ]
            refine held_take 4 (oi := { dst := some 58, op := Op.move (Operand.tmp 57), type := 4, pos := "ref.go:231", after := #[{ on := 3, ground := Ground.data }, { on := 2, ground := Ground.chain }], guard := none }) (v := ?_) (by kernel_rfl) rfl (by rfl) (by kernel_rfl) (by kernel_rfl) (fun _ _ _ h => h) ?_ (by assumption) ?_
            rotate_left
            · (intro w hSw; (try dsimp only at hSw); go_simp; try with_reducible rfl)
            try simp only [Act.put, List.setIfInBounds_toArray, List.set_cons_zero, List.set_cons_succ]
            refine held_take 5 (oi := { dst := some 59, op := Op.fieldAddr 43 (Operand.tmp 7) 0, type := 0, pos := "ref.go:231", after := #[{ on := 4, ground := Ground.guard }], guard := some (4, false) }) (v := ?_) (by kernel_rfl) rfl (by rfl) (by kernel_rfl) (by kernel_rfl) (fun _ _ _ h => h) ?_ (by assumption) ?_
            rotate_left
            · (intro w hSw; (try dsimp only at hSw); go_simp; try with_reducible rfl)
            try simp only [Act.put, List.setIfInBounds_toArray, List.set_cons_zero, List.set_cons_succ]
            refine held_take 6 (oi := { dst := some 60, op := Op.load 9 (Operand.tmp 59), type := 9, pos := "ref.go:231", after := #[{ on := 5, ground := Ground.data }, { on := 4, ground := Ground.guard }], guard := some (4, false) }) (v := ?_) (by kernel_rfl) rfl (by rfl) (by kernel_rfl) (by kernel_rfl) (fun _ _ _ h => h) ?_ (by assumption) ?_
            rotate_left
            · (intro w hSw; (try dsimp only at hSw); go_simp; try with_reducible rfl)
            try simp only [Act.put, List.setIfInBounds_toArray, List.set_cons_zero, List.set_cons_succ]
            refine held_take 8 (oi := { dst := some 62, op := Op.fieldAddr 43 (Operand.tmp 7) 0, type := 0, pos := "ref.go:231", after := #[{ on := 4, ground := Ground.guard }], guard := some (4, false) }) (v := ?_) (by kernel_rfl) rfl (by rfl) (by kernel_rfl) (by kernel_rfl) (fun _ _ _ h => h) ?_ (by assumption) ?_
            rotate_left
            · (intro w hSw; (try dsimp only at hSw); go_simp; try with_reducible rfl)
            try simp only [Act.put, List.setIfInBounds_toArray, List.set_cons_zero, List.set_cons_succ]
            refine held_take 9 (oi := { dst := some 63, op := Op.load 9 (Operand.tmp 62), type := 9, pos := "ref.go:231", after := #[{ on := 8, ground := Ground.data }, { on := 4, ground := Ground.guard }], guard := some (4, false) }) (v := ?_) (by kernel_rfl) rfl (by rfl) (by kernel_rfl) (by kernel_rfl) (fun _ _ _ h => h) ?_ (by assumption) ?_
            rotate_left
            · (intro w hSw; (try dsimp only at hSw); go_simp; try with_reducible rfl)
            try simp only [Act.put, List.setIfInBounds_toArray, List.set_cons_zero, List.set_cons_succ]
            refine held_one 7 (oi := { dst := some 61, op := Op.call { callee := Callee.value (Operand.func 28), args := #[Operand.tmp 60], argTypes := #[9] }, type := 9, pos := "ref.go:231", after := #[{ on := 6, ground := Ground.data }, { on := 4, ground := Ground.chain }, { on := 4, ground := Ground.guard }], guard := some (4, false) }) (by kernel_rfl) rfl (fun K hK => ?_)
            go_simp
            first
              | (go_at_call 26
                 refine (unhide TK _).mono ?_
                 rintro e V1 ⟨rfl, v1⟩
                 have B7 := hide (show Below WB.heap.size WB V1 by rw [v1]; exact (Below.refl _ _).drew)
                 clear v1)
              | (go_at_call 28
                 refine (unhide LW _).mono ?_
                 rintro e V2 ⟨rfl, v2⟩
                 have B8 := chain B7 v2
                 clear v2)
              | (go_at_call 27
                 refine (unhide VL _).mono ?_
                 rintro e V3 ⟨rfl, v3⟩
                 have B9 := hide (show Below WB.heap.size WB V3 by rw [v3]; exact unhide B8)
                 clear v3)
            go_wp2_with fail
            refine hK.out _ _ ?_ (fun hHeld => ?_)
            · try dsimp only
              first | (have hV : B9 = B9 := rfl; clear hV; exact ⟨cell_later (unhide B9) e0, cell_later (unhide B9) e1⟩) | (have hV : B8 = B8 := rfl; clear hV; exact ⟨cell_later (unhide B8) e0, cell_later (unhide B8) e1⟩) | (have hV : B7 = B7 := rfl; clear hV; exact ⟨cell_later (unhide B7) e0, cell_later (unhide B7) e1⟩) | exact ⟨e0, e1⟩
            clear hK K
            try simp only [Act.put, List.setIfInBounds_toArray, List.set_cons_zero, List.set_cons_succ]
            refine held_take 10 (oi := { dst := some 64, op := Op.binOp BinOp.neq 9 (Operand.tmp 61) (Operand.tmp 63) 9, type := 4, pos := "ref.go:231", after := #[{ on := 7, ground := Ground.data }, { on := 9, ground := Ground.data }, { on := 4, ground := Ground.guard }], guard := some (4, false) }) (v := ?_) (by kernel_rfl) rfl (by rfl) (by kernel_rfl) (by kernel_rfl) (fun _ _ _ h => h) ?_ (by assumption) ?_
            rotate_left
            · (intro w hSw; (try dsimp only at hSw); go_simp; try with_reducible rfl)
            try simp only [Act.put, List.setIfInBounds_toArray, List.set_cons_zero, List.set_cons_succ]
            refine held_take 11 (oi := { dst := some 65, op := Op.pick (Operand.tmp 58) (Operand.const (Value.bool true)) (Operand.tmp 64), type := 4, pos := "ref.go:231", after := #[{ on := 4, ground := Ground.data }, { on := 10, ground := Ground.data }], guard := none }) (v := ?_) (by kernel_rfl) rfl (by rfl) (by kernel_rfl) (by kernel_rfl) (fun _ _ _ h => h) ?_ (by assumption) ?_
            rotate_left
            · (intro w hSw; (try dsimp only at hSw); go_simp; try with_reducible rfl)
            try simp only [Act.put, List.setIfInBounds_toArray, List.set_cons_zero, List.set_cons_succ]
            refine held_take 12 (oi := { dst := some 66, op := Op.move (Operand.tmp 65), type := 4, pos := "ref.go:231", after := #[{ on := 11, ground := Ground.data }, { on := 7, ground := Ground.chain }], guard := none }) (v := ?_) (by kernel_rfl) rfl (by rfl) (by kernel_rfl) (by kernel_rfl) (fun _ _ _ h => h) ?_ (by assumption) ?_
            rotate_left
            · (intro w hSw; (try dsimp only at hSw); go_simp; try with_reducible rfl)
            try simp only [Act.put, List.setIfInBounds_toArray, List.set_cons_zero, List.set_cons_succ]
            refine held_take 13 (oi := { dst := some 67, op := Op.fieldAddr 43 (Operand.tmp 7) 1, type := 0, pos := "ref.go:231", after := #[{ on := 12, ground := Ground.guard }], guard := some (12, false) }) (v := ?_) (by kernel_rfl) rfl (by rfl) (by kernel_rfl) (by kernel_rfl) (fun _ _ _ h => h) ?_ (by assumption) ?_
            rotate_left
            · (intro w hSw; (try dsimp only at hSw); go_simp; try with_reducible rfl)
            try simp only [Act.put, List.setIfInBounds_toArray, List.set_cons_zero, List.set_cons_succ]
            refine held_take 14 (oi := { dst := some 68, op := Op.load 9 (Operand.tmp 67), type := 9, pos := "ref.go:231", after := #[{ on := 13, ground := Ground.data }, { on := 12, ground := Ground.guard }], guard := some (12, false) }) (v := ?_) (by kernel_rfl) rfl (by rfl) (by kernel_rfl) (by kernel_rfl) (fun _ _ _ h => h) ?_ (by assumption) ?_
            rotate_left
            · (intro w hSw; (try dsimp only at hSw); go_simp; try with_reducible rfl)
            try simp only [Act.put, List.setIfInBounds_toArray, List.set_cons_zero, List.set_cons_succ]
            refine held_one 15 (oi := { dst := some 69, op := Op.call { callee := Callee.value (Operand.func 27), args := #[Operand.tmp 68], argTypes := #[9] }, type := 4, pos := "ref.go:231", after := #[{ on := 14, ground := Ground.data }, { on := 12, ground := Ground.chain }, { on := 12, ground := Ground.guard }], guard := some (12, false) }) (by kernel_rfl) rfl (fun K hK => ?_)
            go_simp
            first
              | (go_at_call 26
                 refine (unhide TK _).mono ?_
                 rintro e V1 ⟨rfl, v1⟩
                 have B7 := hide (show Below WB.heap.size WB V1 by rw [v1]; exact (Below.refl _ _).drew)
                 clear v1)
              | (go_at_call 28
                 refine (unhide LW _).mono ?_
                 rintro e V2 ⟨rfl, v2⟩
                 have B8 := chain B7 v2
                 clear v2)
              | (go_at_call 27
                 refine (unhide VL _).mono ?_
                 rintro e V3 ⟨rfl, v3⟩
                 have B9 := hide (show Below WB.heap.size WB V3 by rw [v3]; exact unhide B8)
                 clear v3)
            go_wp2_with fail
            refine hK.out _ _ ?_ (fun hHeld => ?_)
            · try dsimp only
              first | (have hV : B9 = B9 := rfl; clear hV; exact ⟨cell_later (unhide B9) e0, cell_later (unhide B9) e1⟩) | (have hV : B8 = B8 := rfl; clear hV; exact ⟨cell_later (unhide B8) e0, cell_later (unhide B8) e1⟩) | (have hV : B7 = B7 := rfl; clear hV; exact ⟨cell_later (unhide B7) e0, cell_later (unhide B7) e1⟩) | exact ⟨e0, e1⟩
            clear hK K
            try simp only [Act.put, List.setIfInBounds_toArray, List.set_cons_zero, List.set_cons_succ]
            refine held_take 16 (oi := { dst := some 70, op := Op.unOp UnOp.not 4 (Operand.tmp 69), type := 4, pos := "ref.go:231", after := #[{ on := 15, ground := Ground.data }, { on := 12, ground := Ground.guard }], guard := some (12, false) }) (v := ?_) (by kernel_rfl) rfl (by rfl) (by kernel_rfl) (by kernel_rfl) (fun _ _ _ h => h) ?_ (by assumption) ?_
            rotate_left
            · (intro w hSw; (try dsimp only at hSw); go_simp; try with_reducible rfl)
            try simp only [Act.put, List.setIfInBounds_toArray, List.set_cons_zero, List.set_cons_succ]
            refine held_take 17 (oi := { dst := some 71, op := Op.pick (Operand.tmp 66) (Operand.const (Value.bool true)) (Operand.tmp 70), type := 4, pos := "ref.go:231", after := #[{ on := 12, ground := Ground.data }, { on := 16, ground := Ground.data }], guard := none }) (v := ?_) (by kernel_rfl) rfl (by rfl) (by kernel_rfl) (by kernel_rfl) (fun _ _ _ h => h) ?_ (by assumption) ?_
            rotate_left
            · (intro w hSw; (try dsimp only at hSw); go_simp; try with_reducible rfl)
            try simp only [Act.put, List.setIfInBounds_toArray, List.set_cons_zero, List.set_cons_succ]
            refine wpAnyH_done (by kernel_rfl) ?_ _
            have d0 := cell_later (unhide B9) e0
            have d1 := cell_later (unhide B9) e1
            have d3 := cell_later (unhide B9) m3
            go_wp2_with (go_at_call 17; refine (unhide HC2 _).mono ?_; rintro e V4 ⟨rfl, v4⟩; have B10 := chain B9 v4; have d4 := cell_later v4 d3; have d5 := cell_later v4 d0; have d6 := cell_later v4 d1; clear v4)
            go_roundw
            case rel => exact ⟨j + 1, by omega, by rw [← unhide LT], by rw [unhide PS2]; rfl, by first | rfl | (rw [hw]), PS1, hide ((unhide BW).trans ((unhide B10).mono (unhide BW).size))⟩
            case measure => simp [intOf]; omega
      · obtain rfl : j = n := by omega
        have hjj : ¬ (j : Int) < (j : Int) := by omega
        have DM := hide (unhide DN j (unhide SW) (Nat.le_refl _))
        have UE := hide (upTo_end h j (by rw [unhide HN]; exact Nat.le_refl _))
        have ET := hide (show stS (upToL h j) ++ (⟨#[13, 10]⟩ : ByteArray) = stS (writtenL h) by rw [endT, unhide UE])
        by_cases hone : (hostsOf (h.fields.take j)).length = 1
        · have hmb : mayBeL h = true := by rw [unhide DM]; exact decide_eq_true hone
          have hk1 : (((hostsOf (h.fields.take j)).length : Int) == 1) = true := by rw [hone]; rfl
          have zw : (stS (upToL h j)).size + 2 = (writtenL h).length := by rw [← unhide UE, List.length_append, stS_size]; rfl
          by_cases h32 : 32 < j
          · have NV := hide (unhide LIM hmb (.inl h32))
            have h32i : (32 : Int) < (j : Int) := by omega
            clear hone hmb FORM LIM OKW DM DN zw
            generalize (hostsOf (h.fields.take j)).length = nh at *
            go_wp2
            go_ret2
            exact ⟨unhide NV _, unhide F⟩
          · have h32i : ¬ (32 : Int) < (j : Int) := by omega
            by_cases h20 : 2048 < (writtenL h).length
            · have NV := hide (unhide LIM hmb (.inr h20))
              have h20i : (2048 : Int) < ((stS (upToL h j)).size : Int) + 2 := by omega
              clear hone hmb FORM LIM OKW DM DN zw
              generalize (hostsOf (h.fields.take j)).length = nh at *
              go_wp2
              go_ret2
              exact ⟨unhide NV _, unhide F⟩
            · have YV := hide (unhide OKW hmb h32 h20)
              have h20i : ¬ (2048 : Int) < ((stS (upToL h j)).size : Int) + 2 := by omega
              obtain ⟨cc, WC, hcv, hown, hbc⟩ := conv_own wr (stS (upToL h j) ++ (⟨#[13, 10]⟩ : ByteArray)) w.heap.size (unhide F).size (by rw [unhide ET, stS_size]; omega)
              have O9 := hide (show OwnZ w.heap.size WC wr.heap.size cc (numsT (writtenL h)) by rw [unhide ET] at hown; exact hown)
              have B9 := chain F hbc
              have ZL := hide (show (stS (upToL h j) ++ (⟨#[13, 10]⟩ : ByteArray)).size = (writtenL h).length by rw [unhide ET, stS_size])
              clear hone hmb FORM LIM OKW DM DN zw hown hbc
              generalize (hostsOf (h.fields.take j)).length = nh at *
              go_wp2
              go_ret2
              have e : WriteEnd h w.heap.size (.returned (.tuple #[.slice (some ⟨wr.heap.size, 0, none⟩) (stS (upToL h j) ++ (⟨#[13, 10]⟩ : ByteArray)).size cc, .int .i64 0])) WC := by rw [unhide ZL]; exact unhide YV _ _ _ (unhide O9)
              rw [ByteArray.size_append] at e
              exact ⟨e, unhide B9⟩
        · have hmb : mayBeL h = false := by rw [unhide DM]; exact decide_eq_false hone
          have NV := hide (unhide FORM hmb)
          have hk1 : (((hostsOf (h.fields.take j)).length : Int) == 1) = false := by rw [beq_eq_false_iff_ne]; omega
          clear hone hmb FORM LIM OKW DM DN
          generalize (hostsOf (h.fields.take j)).length = nh at *
          go_wp2
          go_ret2
          exact ⟨unhide NV _, unhide F⟩
end Go.Proofs.YtmmiadlmdjfepaaDoor
