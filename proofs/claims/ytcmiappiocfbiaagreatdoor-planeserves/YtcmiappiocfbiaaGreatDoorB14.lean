/- Heads: Parse. -/
import Derived.Test.YtcmiappiocfbiaaGreatDoorB13
import Derived.Test.YtcmiappiocfbiaaGreatDoorB05
import Derived.Test.YtcmiappiocfbiaaGreatDoorB03
section
namespace Go.Proofs.YtcmiappiocfbiaaGreatDoor
open Go.ChangeShapes Go.WideShapes Go.ChangeAt Go.RowKit Go.Lib
set_option linter.unusedVariables false

theorem txN_take (l : List Nat) (k : Nat) : txN (l.take k) = (txN l).take k := by unfold txN; rw [List.map_take]
theorem sep_at (W : World) : BytesAt (W.alloc (.cells #[.int .u8 13, .int .u8 10, .int .u8 13, .int .u8 10] 5 (4, 5))) (some ⟨W.heap.size, 0, none⟩) sepN := bytesAt_block (l := sepN) (heap_new _ _) (by decide)
theorem parse_bad {t : Tx} {n : Nat} {W : World} (h : parseL t = .bad n) : ParseRes t (.returned (.tuple #[.agg #[.string ⟨#[]⟩, .string ⟨#[]⟩, .string ⟨#[]⟩, .string ⟨#[]⟩, .slice none 0 0], .int .i64 0, .int .i64 (n : Int)])) W := by unfold ParseRes; rw [h]
theorem parse_none1 {t : Tx} (h : (cutL (crlf ++ crlf) (t.take 2048)).2 = none) (hn : t.length < 2048) : parseL t = .bad 3 := by unfold parseL; rw [h]; simp only; rw [if_pos hn]; rfl
theorem parse_none2 {t : Tx} (h : (cutL (crlf ++ crlf) (t.take 2048)).2 = none) (hn : ¬ t.length < 2048) : parseL t = .bad 6 := by unfold parseL; rw [h]; simp only; rw [if_neg hn]; rfl
theorem parse_some {t b : Tx} (h : (cutL (crlf ++ crlf) (t.take 2048)).2 = some b) : parseL t = match readL ((cutL (crlf ++ crlf) (t.take 2048)).1 ++ crlf) with
    | none => .bad eForm
    | some hd => if 32 < hd.fields.length then .bad eLimit else .ok hd ((cutL (crlf ++ crlf) (t.take 2048)).1.length + 4) := by
  unfold parseL
  rw [h]
  simp only
  cases readL ((cutL (crlf ++ crlf) (t.take 2048)).1 ++ crlf) <;> rfl
set_option maxRecDepth 40000 in
set_option maxHeartbeats 16000000 in
theorem parse_calls (a : Option Addr) (n c : Nat) (l : List Nat) (w : World) (hn : l.length = n) (hc : n ≤ c) (hb : BytesAt w a l) (hz : a = none → c = 0) (hL : Lz w) :
    Calls Tryz.prog 30 #[.slice a n c] w fun e w' => ParseRes (txN l) e w' ∧ Below w.heap.size w w' := by
  have kc : (convert 29 29 (.slice (some ⟨w.heap.size + 1, 0, none⟩) 4 4)).run Tryz.prog ((w.alloc (.cells #[.string ⟨#[]⟩, .string ⟨#[]⟩, .string ⟨#[]⟩, .string ⟨#[]⟩, .slice none 0 0] 58)).alloc (.cells #[.int .u8 13, .int .u8 10, .int .u8 13, .int .u8 10] 5)) = .ok (.slice (some ⟨w.heap.size + 1, 0, none⟩) 4 4) ((w.alloc (.cells #[.string ⟨#[]⟩, .string ⟨#[]⟩, .string ⟨#[]⟩, .string ⟨#[]⟩, .slice none 0 0] 58)).alloc (.cells #[.int .u8 13, .int .u8 10, .int .u8 13, .int .u8 10] 5 (4, 5))) := by
    have := Lib.run_convert_bytes_const (P := Tryz.prog) (w.alloc (.cells #[.string ⟨#[]⟩, .string ⟨#[]⟩, .string ⟨#[]⟩, .string ⟨#[]⟩, .slice none 0 0] 58)) 29 5 #[.int .u8 13, .int .u8 10, .int .u8 13, .int .u8 10] 4 4 Tryz.underlying29 Tryz.underlying5
    simpa using this
  have R0 := hide (RC.new w 58 #[.string ⟨#[]⟩, .string ⟨#[]⟩, .string ⟨#[]⟩, .string ⟨#[]⟩, .slice none 0 0])
  have HB := hide hb
  have HL := hide hL
  have HN := hide hn
  have HT := hide (show (txN l).length = n by rw [txN_len, hn])
  have hse : BytesAt ((w.alloc (.cells #[.string ⟨#[]⟩, .string ⟨#[]⟩, .string ⟨#[]⟩, .string ⟨#[]⟩, .slice none 0 0] 58)).alloc (.cells #[.int .u8 13, .int .u8 10, .int .u8 13, .int .u8 10] 5 (4, 5))) (some ⟨w.heap.size + 1, 0, none⟩) sepN := by have := sep_at (w.alloc (.cells #[.string ⟨#[]⟩, .string ⟨#[]⟩, .string ⟨#[]⟩, .string ⟨#[]⟩, .slice none 0 0] 58)); simpa using this
  have R1 := hide ((unhide R0).alloc (.cells #[.int .u8 13, .int .u8 10, .int .u8 13, .int .u8 10] 5 (4, 5)))
  have IX := hide (show Calls Tryz.prog 50 #[.slice a (min (n : Int) 2048).toNat c, .slice (some ⟨w.heap.size + 1, 0, none⟩) 4 4] ((w.alloc (.cells #[.string ⟨#[]⟩, .string ⟨#[]⟩, .string ⟨#[]⟩, .string ⟨#[]⟩, .slice none 0 0] 58)).alloc (.cells #[.int .u8 13, .int .u8 10, .int .u8 13, .int .u8 10] 5 (4, 5))) fun e w' => e = .returned (.int .i64 (Lib.index ((txN l).take 2048) (crlf ++ crlf))) ∧ Below ((w.alloc (.cells #[.string ⟨#[]⟩, .string ⟨#[]⟩, .string ⟨#[]⟩, .string ⟨#[]⟩, .slice none 0 0] 58)).alloc (.cells #[.int .u8 13, .int .u8 10, .int .u8 13, .int .u8 10] 5 (4, 5))).heap.size ((w.alloc (.cells #[.string ⟨#[]⟩, .string ⟨#[]⟩, .string ⟨#[]⟩, .string ⟨#[]⟩, .slice none 0 0] 58)).alloc (.cells #[.int .u8 13, .int .u8 10, .int .u8 13, .int .u8 10] 5 (4, 5))) w' by
    rw [← txN_take, show (min (n : Int) 2048).toNat = min n 2048 by omega]
    exact index_calls (by rw [List.length_take, hn]; omega) (by omega) (by omega) hz ((hb.later (unhide R1).bel).take 2048) hse (hL.later (unhide R1).bel))
  clear hb hL hn hz hse
  have hne : (crlf ++ crlf) ≠ [] := by decide
  cases hcu : (cutL (crlf ++ crlf) ((txN l).take 2048)).2 with
  | none =>
    rw [index_cut0 hne hcu] at IX
    by_cases hs : n < 2048
    · have EP := hide (parse_none1 hcu (by rw [unhide HT]; exact hs))
      have hs1 : (n : Int) < 2048 := by omega
      clear hcu
      go_enter Tryz.func30, Tryz.ntmps30
      go_wp2_with (first | (go_at_call 50; refine (unhide IX).mono ?_; rintro e W1 ⟨rfl, hb1⟩
                            have R2 := hide ((unhide R1).later hb1)
                            have z0 := (unhide R2).cell 0 (.string ⟨#[]⟩) rfl
                            have z1 := (unhide R2).cell 1 (.string ⟨#[]⟩) rfl
                            have z2 := (unhide R2).cell 2 (.string ⟨#[]⟩) rfl
                            have z3 := (unhide R2).cell 3 (.string ⟨#[]⟩) rfl
                            have z4 := (unhide R2).cell 4 (.slice none 0 0) rfl
                            have f0 := (unhide R2).froz 0
                            have f1 := (unhide R2).froz 1
                            have f2 := (unhide R2).froz 2
                            have f3 := (unhide R2).froz 3
                            have f4 := (unhide R2).froz 4))
      have R9 := (unhide R2).set5 (.string ⟨#[]⟩) (.string ⟨#[]⟩) (.string ⟨#[]⟩) (.string ⟨#[]⟩) (.slice none 0 0)
      have g0 := R9.cell 0 (.string ⟨#[]⟩) rfl
      have g1 := R9.cell 1 (.string ⟨#[]⟩) rfl
      have g2 := R9.cell 2 (.string ⟨#[]⟩) rfl
      have g3 := R9.cell 3 (.string ⟨#[]⟩) rfl
      have g4 := R9.cell 4 (.slice none 0 0) rfl
      refine bodyPost_ret (v := .tuple #[.agg #[.string ⟨#[]⟩, .string ⟨#[]⟩, .string ⟨#[]⟩, .string ⟨#[]⟩, .slice none 0 0], .int .i64 0, .int .i64 3]) ?_ rfl ⟨parse_bad (n := 3) (unhide EP), R9.bel⟩
      rw [results_cell_tmp2 rfl]
      go_simp
      try rfl
    · have EP := hide (parse_none2 hcu (by rw [unhide HT]; exact hs))
      have hs1 : ¬ (n : Int) < 2048 := by omega
      clear hcu
      go_enter Tryz.func30, Tryz.ntmps30
      go_wp2_with (first | (go_at_call 50; refine (unhide IX).mono ?_; rintro e W1 ⟨rfl, hb1⟩
                            have R2 := hide ((unhide R1).later hb1)
                            have z0 := (unhide R2).cell 0 (.string ⟨#[]⟩) rfl
                            have z1 := (unhide R2).cell 1 (.string ⟨#[]⟩) rfl
                            have z2 := (unhide R2).cell 2 (.string ⟨#[]⟩) rfl
                            have z3 := (unhide R2).cell 3 (.string ⟨#[]⟩) rfl
                            have z4 := (unhide R2).cell 4 (.slice none 0 0) rfl
                            have f0 := (unhide R2).froz 0
                            have f1 := (unhide R2).froz 1
                            have f2 := (unhide R2).froz 2
                            have f3 := (unhide R2).froz 3
                            have f4 := (unhide R2).froz 4))
      have R9 := (unhide R2).set5 (.string ⟨#[]⟩) (.string ⟨#[]⟩) (.string ⟨#[]⟩) (.string ⟨#[]⟩) (.slice none 0 0)
      have g0 := R9.cell 0 (.string ⟨#[]⟩) rfl
      have g1 := R9.cell 1 (.string ⟨#[]⟩) rfl
      have g2 := R9.cell 2 (.string ⟨#[]⟩) rfl
      have g3 := R9.cell 3 (.string ⟨#[]⟩) rfl
      have g4 := R9.cell 4 (.slice none 0 0) rfl
      refine bodyPost_ret (v := .tuple #[.agg #[.string ⟨#[]⟩, .string ⟨#[]⟩, .string ⟨#[]⟩, .string ⟨#[]⟩, .slice none 0 0], .int .i64 0, .int .i64 6]) ?_ rfl ⟨parse_bad (n := 6) (unhide EP), R9.bel⟩
      rw [results_cell_tmp2 rfl]
      go_simp
      try rfl
  | some b =>
    rw [index_cut1 hne hcu] at IX
    have EP := hide (parse_some hcu)
    have hsp := cutL_some hcu
    generalize hA : (cutL (crlf ++ crlf) ((txN l).take 2048)).1 = A at *
    have hlen : A.length + 4 + b.length = min 2048 n := by
      have := congrArg List.length hsp
      rw [List.length_take, unhide HT] at this
      simp [crlf] at this
      omega
    have htx : txN (l.take (A.length + 2)) = A ++ crlf := by
      rw [txN_take]
      have e : (txN l).take (A.length + 2) = ((txN l).take 2048).take (A.length + 2) := by rw [List.take_take]; congr 1; omega
      rw [e, hsp, show A ++ (crlf ++ crlf ++ b) = (A ++ crlf) ++ (crlf ++ b) by simp [List.append_assoc], show A.length + 2 = (A ++ crlf).length by simp [crlf], List.take_left]
    generalize hk : A.length = k at *
    have hst := hide (show ∀ U, Below w.heap.size w U → (convert 29 9 (.slice a (k + 2) c)).run Tryz.prog U = .ok (.string (stS (A ++ crlf))) U from fun U hu => by
      have := run_string8 (w := U) (k + 2) c (l := l.take (k + 2)) (by rw [List.length_take, unhide HN]; omega) (((unhide HB).later hu).take (k + 2))
      rw [strOf_tx, htx] at this
      exact this)
    have RD := hide (show ∀ U, Below w.heap.size w U → Calls Tryz.prog 51 #[.string (stS (A ++ crlf))] U fun e w' => ReadRes U.heap.size (A ++ crlf) e w' ∧ Below U.heap.size U w' from fun U hu => read_calls (stS (A ++ crlf)) (by rw [stS_size]; simp [crlf]; omega) U ((unhide HL).later hu))
    have q1 : IntKind.i64.wrap ((k : Int) + 2) = (k : Int) + 2 := by rw [IntKind.wrap_i64]; omega
    have q2 : IntKind.i64.wrap ((k : Int) + 4) = (k : Int) + 4 := by rw [IntKind.wrap_i64]; omega
    have q3 : ¬ (k : Int) < 0 := by omega
    have q4 : (0 : Int) ≤ (k : Int) + 2 := by omega
    have q5 : (k : Int) + 2 ≤ (c : Int) := by omega
    have q6 : ((k : Int) + 2).toNat = k + 2 := by omega
    clear hsp htx hcu hA
    cases hr : readL (A ++ crlf) with
    | none =>
      have RD1 := hide (show ∀ U, Below w.heap.size w U → Calls Tryz.prog 51 #[.string (stS (A ++ crlf))] U fun e w' => (∃ x y z u sp nn cc, e = .returned (.tuple #[.agg #[.string x, .string y, .string z, .string u, .slice sp nn cc], .bool false])) ∧ Below U.heap.size U w' from fun U hu => (unhide RD U hu).mono fun e w' h => by
        obtain ⟨h1, h2⟩ := h
        unfold ReadRes at h1; rw [hr] at h1
        exact ⟨h1, h2⟩)
      have EP2 := hide (show parseL (txN l) = .bad 4 by rw [unhide EP, hr]; rfl)
      clear EP RD hr
      go_enter Tryz.func30, Tryz.ntmps30
      go_wp2_with (first
        | (go_at_call 50; refine (unhide IX).mono ?_; rintro e W1 ⟨rfl, hb1⟩
           have R2 := hide ((unhide R1).later hb1)
           have hst1 := unhide hst W1 (unhide R2).bel)
        | (go_at_call 51; refine (unhide RD1 _ (unhide R2).bel).mono ?_; rintro e W2 ⟨⟨x, y, z, u, sp, nn, cc, rfl⟩, hb2⟩
           have R3 := hide (((unhide R2).later hb2).alloc (.cells #[.string x, .string y, .string z, .string u, .slice sp nn cc] 58))
           have N3 := hide (heap_new W2 (.cells #[.string x, .string y, .string z, .string u, .slice sp nn cc] 58))
           have z0 := (unhide R3).cell 0 (.string ⟨#[]⟩) rfl
           have z1 := (unhide R3).cell 1 (.string ⟨#[]⟩) rfl
           have z2 := (unhide R3).cell 2 (.string ⟨#[]⟩) rfl
           have z3 := (unhide R3).cell 3 (.string ⟨#[]⟩) rfl
           have z4 := (unhide R3).cell 4 (.slice none 0 0) rfl
           have f0 := (unhide R3).froz 0
           have f1 := (unhide R3).froz 1
           have f2 := (unhide R3).froz 2
           have f3 := (unhide R3).froz 3
           have f4 := (unhide R3).froz 4))
      have R9 := (unhide R3).set5 (.string ⟨#[]⟩) (.string ⟨#[]⟩) (.string ⟨#[]⟩) (.string ⟨#[]⟩) (.slice none 0 0)
      have g0 := R9.cell 0 (.string ⟨#[]⟩) rfl
      have g1 := R9.cell 1 (.string ⟨#[]⟩) rfl
      have g2 := R9.cell 2 (.string ⟨#[]⟩) rfl
      have g3 := R9.cell 3 (.string ⟨#[]⟩) rfl
      have g4 := R9.cell 4 (.slice none 0 0) rfl
      refine bodyPost_ret (v := .tuple #[.agg #[.string ⟨#[]⟩, .string ⟨#[]⟩, .string ⟨#[]⟩, .string ⟨#[]⟩, .slice none 0 0], .int .i64 0, .int .i64 4]) ?_ rfl ⟨parse_bad (n := 4) (unhide EP2), R9.bel⟩
      rw [results_cell_tmp2 rfl]
      go_simp
      try rfl
    | some hd =>
      have RD1 := hide (show ∀ U, Below w.heap.size w U → Calls Tryz.prog 51 #[.string (stS (A ++ crlf))] U fun e w' => (∃ sp cc, e = .returned (.tuple #[.agg #[.string (stS hd.method), .string (stS hd.path), .string (stS hd.query), .string (stS hd.host), .slice sp hd.fields.length cc], .bool true]) ∧ FdsAt w' sp hd.fields ∧ (∀ x, sp = some x → U.heap.size ≤ x.block) ∧ hd.fields.length ≤ 4096 ∧ ∀ f ∈ hd.fields, f.name.length ≤ 4096 ∧ f.value.length ≤ 4096) ∧ Below U.heap.size U w' from fun U hu => (unhide RD U hu).mono fun e w' h => by
        obtain ⟨h1, h2⟩ := h
        unfold ReadRes at h1; rw [hr] at h1
        exact ⟨h1, h2⟩)
      have EPX := hide (show parseL (txN l) = if 32 < hd.fields.length then .bad 6 else .ok hd (k + 4) by rw [unhide EP, hr]; rfl)
      have OKV := hide (show ∀ (W : World) (e : Ending), parseL (txN l) = .ok hd (k + 4) → (∃ sp cc, e = .returned (.tuple #[.agg #[.string (stS hd.method), .string (stS hd.path), .string (stS hd.query), .string (stS hd.host), .slice sp hd.fields.length cc], .int .i64 ((k + 4 : Nat) : Int), .int .i64 0]) ∧ FdsAt W sp hd.fields ∧ hd.fields.length ≤ 32 ∧ ∀ f ∈ hd.fields, f.name.length ≤ 4096 ∧ f.value.length ≤ 4096) → ParseRes (txN l) e W from fun W e h1 h2 => by unfold ParseRes; rw [h1]; exact h2)
      clear EP RD hr
      generalize hnf : hd.fields.length = nf at *
      generalize stS hd.method = sm at *
      generalize stS hd.path = sp1 at *
      generalize stS hd.query = sq at *
      generalize stS hd.host = sh at *
      by_cases h32 : 32 < nf
      · have h32i : (32 : Int) < (nf : Int) := by omega
        have EP2 := hide (show parseL (txN l) = .bad 6 by rw [unhide EPX, if_pos h32])
        clear h32 EPX OKV
        go_enter Tryz.func30, Tryz.ntmps30
        go_wp2_with (first
          | (go_at_call 50; refine (unhide IX).mono ?_; rintro e W1 ⟨rfl, hb1⟩
             have R2 := hide ((unhide R1).later hb1)
             have hst1 := unhide hst W1 (unhide R2).bel)
          | (go_at_call 51; refine (unhide RD1 _ (unhide R2).bel).mono ?_; rintro e W2 ⟨⟨sp, cc, rfl, hfd, hlo, hl1, hl2⟩, hb2⟩
             have R3 := hide (((unhide R2).later hb2).alloc (.cells #[.string sm, .string sp1, .string sq, .string sh, .slice sp nf cc] 58))
             have N3 := hide (heap_new W2 (.cells #[.string sm, .string sp1, .string sq, .string sh, .slice sp nf cc] 58))
             have c4 := box_cell (unhide N3) 4 (.slice sp nf cc) rfl
             clear hfd hlo hl1 hl2
             have z0 := (unhide R3).cell 0 (.string ⟨#[]⟩) rfl
             have z1 := (unhide R3).cell 1 (.string ⟨#[]⟩) rfl
             have z2 := (unhide R3).cell 2 (.string ⟨#[]⟩) rfl
             have z3 := (unhide R3).cell 3 (.string ⟨#[]⟩) rfl
             have z4 := (unhide R3).cell 4 (.slice none 0 0) rfl
             have f0 := (unhide R3).froz 0
             have f1 := (unhide R3).froz 1
             have f2 := (unhide R3).froz 2
             have f3 := (unhide R3).froz 3
             have f4 := (unhide R3).froz 4))
        have R9 := (unhide R3).set5 (.string ⟨#[]⟩) (.string ⟨#[]⟩) (.string ⟨#[]⟩) (.string ⟨#[]⟩) (.slice none 0 0)
        have g0 := R9.cell 0 (.string ⟨#[]⟩) rfl
        have g1 := R9.cell 1 (.string ⟨#[]⟩) rfl
        have g2 := R9.cell 2 (.string ⟨#[]⟩) rfl
        have g3 := R9.cell 3 (.string ⟨#[]⟩) rfl
        have g4 := R9.cell 4 (.slice none 0 0) rfl
        refine bodyPost_ret (v := .tuple #[.agg #[.string ⟨#[]⟩, .string ⟨#[]⟩, .string ⟨#[]⟩, .string ⟨#[]⟩, .slice none 0 0], .int .i64 0, .int .i64 6]) ?_ rfl ⟨parse_bad (n := 6) (unhide EP2), R9.bel⟩
        rw [results_cell_tmp2 rfl]
        go_simp
        try rfl
      · have h32i : ¬ (32 : Int) < (nf : Int) := by omega
        have EP2 := hide (show parseL (txN l) = .ok hd (k + 4) by rw [unhide EPX, if_neg h32])
        have H32 := hide (show nf ≤ 32 by omega)
        clear h32 EPX
        go_enter Tryz.func30, Tryz.ntmps30
        go_wp2_with (first
          | (go_at_call 50; refine (unhide IX).mono ?_; rintro e W1 ⟨rfl, hb1⟩
             have R2 := hide ((unhide R1).later hb1)
             have hst1 := unhide hst W1 (unhide R2).bel)
          | (go_at_call 51; refine (unhide RD1 _ (unhide R2).bel).mono ?_; rintro e W2 ⟨⟨sp, cc, rfl, hfd, hlo, hl1, hl2⟩, hb2⟩
             have R3 := hide (((unhide R2).later hb2).alloc (.cells #[.string sm, .string sp1, .string sq, .string sh, .slice sp nf cc] 58))
             have N3 := hide (heap_new W2 (.cells #[.string sm, .string sp1, .string sq, .string sh, .slice sp nf cc] 58))
             have c0 := box_cell (unhide N3) 0 (.string sm) rfl
             have c1 := box_cell (unhide N3) 1 (.string sp1) rfl
             have c2 := box_cell (unhide N3) 2 (.string sq) rfl
             have c3 := box_cell (unhide N3) 3 (.string sh) rfl
             have c4 := box_cell (unhide N3) 4 (.slice sp nf cc) rfl
             have HF := hide hfd
             have HLO := hide (show ∀ x, sp = some x → x.block ≠ w.heap.size from fun x hx => by have := hlo x hx; have := (Array.getElem?_eq_some_iff.1 (unhide R2).row).1; omega)
             have HL2 := hide hl2
             clear hfd hlo hl1 hl2
             have z0 := (unhide R3).cell 0 (.string ⟨#[]⟩) rfl
             have z1 := (unhide R3).cell 1 (.string ⟨#[]⟩) rfl
             have z2 := (unhide R3).cell 2 (.string ⟨#[]⟩) rfl
             have z3 := (unhide R3).cell 3 (.string ⟨#[]⟩) rfl
             have z4 := (unhide R3).cell 4 (.slice none 0 0) rfl
             have f0 := (unhide R3).froz 0
             have f1 := (unhide R3).froz 1
             have f2 := (unhide R3).froz 2
             have f3 := (unhide R3).froz 3
             have f4 := (unhide R3).froz 4))
        have R9 := (unhide R3).set5 (.string sm) (.string sp1) (.string sq) (.string sh) (.slice sp nf cc)
        have g0 := R9.cell 0 (.string sm) rfl
        have g1 := R9.cell 1 (.string sp1) rfl
        have g2 := R9.cell 2 (.string sq) rfl
        have g3 := R9.cell 3 (.string sh) rfl
        have g4 := R9.cell 4 (.slice sp nf cc) rfl
        refine bodyPost_ret (v := .tuple #[.agg #[.string sm, .string sp1, .string sq, .string sh, .slice sp nf cc], .int .i64 ((k : Int) + 4), .int .i64 0]) ?_ rfl ⟨unhide OKV _ _ (unhide EP2) ⟨sp, cc, rfl, ?_, unhide H32, unhide HL2⟩, R9.bel⟩
        · rw [results_cell_tmp2 rfl]
          go_simp
          try rfl
        · exact ((((((unhide HF).later ((Below.refl _ _).alloc (Nat.le_refl _) _)).set _ _ _ (unhide HLO)).set _ _ _ (unhide HLO)).set _ _ _ (unhide HLO)).set _ _ _ (unhide HLO)).set _ _ _ (unhide HLO)
end Go.Proofs.YtcmiappiocfbiaaGreatDoor
end
/- Plane: an answer on its way; its step parse. -/
section
namespace Go.Proofs.YtcmiappiocfbiaaGreatDoor
open Go.ChangeShapes Go.WideShapes Go.ChangeAt Go.RowKit
set_option linter.unusedVariables false

/-- One block that is written, and nothing else that lay there. -/
structure AB (A : Nat) (W0 : World) (cs : Array Value) (W : World) : Prop where
  row : W.heap[A]? = some (.cells cs 60 (0, 0))
  gr : W0.grownBy W (some A)
  lt : A < W0.heap.size
section
variable {A : Nat} {W0 W W' : World} {cs : Array Value}
theorem AB.new (h : W0.heap[A]? = some (.cells cs 60 (0, 0))) : AB A W0 cs W0 := ⟨h, ⟨rfl, rfl, rfl, Nat.le_refl _, fun _ _ _ => rfl⟩, (Array.getElem?_eq_some_iff.1 h).1⟩
theorem AB.later (h : AB A W0 cs W) (hb : Below W.heap.size W W') : AB A W0 cs W' :=
  ⟨(hb.block A (Array.getElem?_eq_some_iff.1 h.row).1).trans h.row, ⟨hb.os.trans h.gr.os, hb.tape.trans h.gr.tape, hb.output.trans h.gr.output, Nat.le_trans h.gr.size hb.size, fun k hk hne => (hb.block k (Nat.lt_of_lt_of_le hk h.gr.size)).trans (h.gr.block k hk hne)⟩, h.lt⟩
theorem AB.alloc (h : AB A W0 cs W) (o : Obj) : AB A W0 cs (W.alloc o) := h.later ((Below.refl _ _).alloc (Nat.le_refl _) o)
theorem AB.set (h : AB A W0 cs W) (i : Nat) (v : Value) : AB A W0 (cs.setIfInBounds i v) (W.setCell ⟨A, i, none⟩ v) :=
  ⟨heap_setCell_same W A i cs _ v h.row, ⟨h.gr.os, h.gr.tape, h.gr.output, by rw [show (W.setCell ⟨A, i, none⟩ v).heap.size = W.heap.size by simp [World.setCell]]; exact h.gr.size, fun k hk hne => (heap_setCell_other W ⟨A, i, none⟩ k v (fun e => hne (by rw [e]))).trans (h.gr.block k hk hne)⟩, h.lt⟩
theorem AB.cell (h : AB A W0 cs W) (i : Nat) (v : Value) (hv : cs[i]? = some v) : W.cell? ⟨A, i, none⟩ = some v := box_cell h.row i v hv
theorem AB.froz (h : AB A W0 cs W) (i : Nat) : W.frozen? ⟨A, i, none⟩ = false := by simp [World.frozen?, h.row]
theorem AB.trans {cs' : Array Value} (h : AB A W0 cs W) (k : AB A W cs' W') : AB A W0 cs' W' :=
  ⟨k.row, ⟨k.gr.os.trans h.gr.os, k.gr.tape.trans h.gr.tape, k.gr.output.trans h.gr.output, Nat.le_trans h.gr.size k.gr.size, fun j hj hne => (k.gr.block j (Nat.lt_of_lt_of_le hj h.gr.size) hne).trans (h.gr.block j hj hne)⟩, h.lt⟩
/-- What lay there ahead of the block lies there still. -/
theorem AB.below (h : AB A W0 cs W) {B : Nat} (hB : B ≤ A) : Below B W0 W := ⟨h.gr.os, h.gr.tape, h.gr.output, h.gr.size, fun k hk => h.gr.block k (by have := h.lt; omega) (fun e => by have := Option.some.inj e; omega)⟩
end
/-- An answer's cells: configuration, bytes, draw, head, reply. -/
def ansC (ver : Int) (ra : Option Addr) (rn rc : Nat) (pa : Option Addr) (pn pc : Nat) (ba : Option Addr) (bn bc d : Nat) (m p q x : ByteArray) (fa : Option Addr) (fn fc : Nat) (st vr : Int) (pool addr : ByteArray) : Array Value :=
  #[.int .i64 ver, .slice ra rn rc, .slice pa pn pc, .slice ba bn bc, .float .f64 d, .string m, .string p, .string q, .string x, .slice fa fn fc, .int .i64 st, .int .i64 vr, .string pool, .string addr]
/-- How the step parse ends. -/
def APEnd (A : Nat) (W : World) (l : List Nat) (ver : Int) (ra : Option Addr) (rn rc : Nat) (pa : Option Addr) (pn pc : Nat) (ba : Option Addr) (bn bc d : Nat) (e : Ending) (W' : World) : Prop := match parseL (txN l) with
  | .bad _ => e = .returned (.int .i64 400) ∧ AB A W (ansC ver ra rn rc pa pn pc ba bn bc d ⟨#[]⟩ ⟨#[]⟩ ⟨#[]⟩ ⟨#[]⟩ none 0 0 0 0 ⟨#[]⟩ ⟨#[]⟩) W'
  | .ok h _ => e = .returned (.int .i64 0) ∧ ∃ fa fc, AB A W (ansC ver ra rn rc pa pn pc ba bn bc d (stS h.method) (stS h.path) (stS h.query) (stS h.host) fa h.fields.length fc 0 0 ⟨#[]⟩ ⟨#[]⟩) W'
set_option maxRecDepth 20000 in
set_option maxHeartbeats 8000000 in
theorem aparse_calls (A : Nat) (W : World) (l : List Nat) (ver : Int) (ra : Option Addr) (rn rc : Nat) (pa : Option Addr) (pn pc : Nat) (ba : Option Addr) (bn bc d : Nat)
    (hA : W.heap[A]? = some (.cells (ansC ver ra rn rc pa pn pc ba bn bc d ⟨#[]⟩ ⟨#[]⟩ ⟨#[]⟩ ⟨#[]⟩ none 0 0 0 0 ⟨#[]⟩ ⟨#[]⟩) 60 (0, 0)))
    (hn : l.length = bn) (hc : bn ≤ bc) (hb : BytesAt W ba l) (hz : ba = none → bc = 0) (hL : Lz W) :
    Calls Tryz.prog 18 #[.pointer (some ⟨A, 0, none⟩)] W fun e W' => APEnd A W l ver ra rn rc pa pn pc ba bn bc d e W' := by
  have R0 := hide (AB.new hA)
  have k3 := box_cell hA 3 (.slice ba bn bc) rfl
  have PC := hide (parse_calls ba bn bc l W hn hc hb hz hL)
  cases hp : parseL (txN l) with
  | bad n =>
    have PC2 := hide (show Calls Tryz.prog 30 #[.slice ba bn bc] W fun e w' => e = .returned (.tuple #[.agg #[.string ⟨#[]⟩, .string ⟨#[]⟩, .string ⟨#[]⟩, .string ⟨#[]⟩, .slice none 0 0], .int .i64 0, .int .i64 (n : Int)]) ∧ Below W.heap.size W w' from (unhide PC).mono fun e w' he => by
      obtain ⟨h1, h2⟩ := he
      unfold ParseRes at h1
      rw [hp] at h1
      exact ⟨h1, h2⟩)
    have hn0 : n = 3 ∨ n = 6 ∨ n = 4 := by
      unfold parseL at hp
      split at hp
      · split at hp
        · cases hp; exact .inl rfl
        · cases hp; exact .inr (.inl rfl)
      · split at hp
        · cases hp; exact .inr (.inr rfl)
        · split at hp
          · cases hp; exact .inr (.inl rfl)
          · cases hp
    have FE := hide (show ∀ W', AB A W (ansC ver ra rn rc pa pn pc ba bn bc d ⟨#[]⟩ ⟨#[]⟩ ⟨#[]⟩ ⟨#[]⟩ none 0 0 0 0 ⟨#[]⟩ ⟨#[]⟩) W' → APEnd A W l ver ra rn rc pa pn pc ba bn bc d (.returned (.int .i64 400)) W' from fun W' h => by unfold APEnd; rw [hp]; exact ⟨rfl, h⟩)
    clear hp PC hb hz hL hA
    rcases hn0 with rfl | rfl | rfl
    all_goals
      go_enter Tryz.func18, Tryz.ntmps18
      go_wp2_with (first
        | (go_at_call 30; refine (unhide PC2).mono ?_; rintro e V1 ⟨rfl, v1⟩
           have R1 := hide (((unhide R0).later v1).alloc (.cells #[.string ⟨#[]⟩, .string ⟨#[]⟩, .string ⟨#[]⟩, .string ⟨#[]⟩, .slice none 0 0] 58))
           clear v1))
      go_ret
      exact unhide FE _ (unhide R1)
  | ok h k =>
    have PC2 := hide (show Calls Tryz.prog 30 #[.slice ba bn bc] W fun e w' => (∃ sp cc, e = .returned (.tuple #[.agg #[.string (stS h.method), .string (stS h.path), .string (stS h.query), .string (stS h.host), .slice sp h.fields.length cc], .int .i64 (k : Int), .int .i64 0])) ∧ Below W.heap.size W w' from (unhide PC).mono fun e w' he => by
      obtain ⟨h1, h2⟩ := he
      unfold ParseRes at h1
      rw [hp] at h1
      obtain ⟨sp, cc, e1, _⟩ := h1
      exact ⟨⟨sp, cc, e1⟩, h2⟩)
    have FE := hide (show ∀ W' fa fc, AB A W (ansC ver ra rn rc pa pn pc ba bn bc d (stS h.method) (stS h.path) (stS h.query) (stS h.host) fa h.fields.length fc 0 0 ⟨#[]⟩ ⟨#[]⟩) W' → APEnd A W l ver ra rn rc pa pn pc ba bn bc d (.returned (.int .i64 0)) W' from fun W' fa fc hh => by unfold APEnd; rw [hp]; exact ⟨rfl, fa, fc, hh⟩)
    clear hp PC hb hz hL hA
    generalize stS h.method = sm at *
    generalize stS h.path = sp at *
    generalize stS h.query = sq at *
    generalize stS h.host = sx at *
    generalize h.fields.length = nf at *
    go_enter Tryz.func18, Tryz.ntmps18
    go_wp2_with (first
      | (go_at_call 30; refine (unhide PC2).mono ?_; rintro e V1 ⟨⟨fa, fc, rfl⟩, v1⟩
         have X1 := heap_new V1 (.cells #[.string sm, .string sp, .string sq, .string sx, .slice fa nf fc] 58)
         have p0 := box_cell X1 0 _ rfl
         have p1 := box_cell X1 1 _ rfl
         have p2 := box_cell X1 2 _ rfl
         have p3 := box_cell X1 3 _ rfl
         have p4 := box_cell X1 4 _ rfl
         have R1 := hide (((unhide R0).later v1).alloc (.cells #[.string sm, .string sp, .string sq, .string sx, .slice fa nf fc] 58))
         have z5 := (unhide R1).cell 5 (.string ⟨#[]⟩) rfl
         have z6 := (unhide R1).cell 6 (.string ⟨#[]⟩) rfl
         have z7 := (unhide R1).cell 7 (.string ⟨#[]⟩) rfl
         have z8 := (unhide R1).cell 8 (.string ⟨#[]⟩) rfl
         have z9 := (unhide R1).cell 9 (.slice none 0 0) rfl
         have f5 := (unhide R1).froz 5
         have f6 := (unhide R1).froz 6
         have f7 := (unhide R1).froz 7
         have f8 := (unhide R1).froz 8
         have f9 := (unhide R1).froz 9
         have R2 := hide (show AB A W (ansC ver ra rn rc pa pn pc ba bn bc d sm sp sq sx fa nf fc 0 0 ⟨#[]⟩ ⟨#[]⟩) ((((((V1.alloc (.cells #[.string sm, .string sp, .string sq, .string sx, .slice fa nf fc] 58)).setCell ⟨A, 5, none⟩ (.string sm)).setCell ⟨A, 6, none⟩ (.string sp)).setCell ⟨A, 7, none⟩ (.string sq)).setCell ⟨A, 8, none⟩ (.string sx)).setCell ⟨A, 9, none⟩ (.slice fa nf fc)) from (((((unhide R1).set 5 (.string sm)).set 6 (.string sp)).set 7 (.string sq)).set 8 (.string sx)).set 9 (.slice fa nf fc))
         clear v1 X1))
    go_ret
    exact unhide FE _ _ _ (unhide R2)
end Go.Proofs.YtcmiappiocfbiaaGreatDoor
end
