/- Logs: fileName, numberOf, greatest. -/
import Derived.Test.YtijcpmbfhfppmaaGreatDoorB16
import Derived.Test.YtijcpmbfhfppmaaGreatDoorB17
import Derived.Test.YtijcpmbfhfppmaaGreatDoorB19
import Derived.Test.YtijcpmbfhfppmaaGreatDoorB06
import Derived.Test.YtijcpmbfhfppmaaGreatDoorB15
section
namespace Go.Proofs.YtijcpmbfhfppmaaGreatDoor
open Go.ChangeShapes Go.WideShapes Go.ChangeAt Go.RowKit Go.Sort
set_option linter.unusedVariables false

/-- What the library's texts of numbers read. -/
structure Tz (w : World) : Prop where
  tab : Lib.TabIs Tryz.prog w "internal/strconv.uint64pow10" .u64 Lib.pow10Tab
  sy : ∃ ev, w.cell? ⟨Tryz.laysC172_ren.g 15, 0, none⟩ = some ev ∧ (ev = .nilIface ∨ ∃ te pe, ev = .iface te pe)
  rg : ∃ ev, w.cell? ⟨Tryz.laysC172_ren.g 16, 0, none⟩ = some ev ∧ (ev = .nilIface ∨ ∃ te pe, ev = .iface te pe)
theorem tab_later {n : String} {g : Nat} {k : IntKind} {zs : List Int} {w w' : World} (hg : Tryz.prog.globalNamed n = some g) (h : Lib.TabIs Tryz.prog w n k zs) (hb : Below w.heap.size w w') : Lib.TabIs Tryz.prog w' n k zs := by
  unfold Lib.TabIs World.var? at h ⊢
  rw [hg] at h ⊢
  simp only [Option.bind_some] at h ⊢
  have hlt : g < w.heap.size := by
    rcases Nat.lt_or_ge g w.heap.size with h' | h'
    · exact h'
    · rw [Array.getElem?_eq_none h'] at h; cases h
  rw [hb.block g hlt]
  exact h
theorem pow_global : ∃ g, Tryz.prog.globalNamed "internal/strconv.uint64pow10" = some g := Option.isSome_iff_exists.1 (show (Tryz.prog.globalNamed "internal/strconv.uint64pow10").isSome = true by kernel_rfl)
theorem Tz.later {w w' : World} (h : Tz w) (hb : Below w.heap.size w w') : Tz w' := by
  obtain ⟨g, hg⟩ := pow_global
  obtain ⟨e1, h1, h2⟩ := h.sy
  obtain ⟨e2, h3, h4⟩ := h.rg
  exact ⟨tab_later hg h.tab hb, ⟨e1, cell_later hb h1, h2⟩, ⟨e2, cell_later hb h3, h4⟩⟩
theorem grow_below {w : World} (k : Nat) (os : Array Obj) : Below w.heap.size w (grow (w.drewN k) os) :=
  ⟨rfl, rfl, rfl, by show w.heap.size ≤ (w.heap ++ os).size; simp, fun i hi => by show (w.heap ++ os)[i]? = _; rw [Array.getElem?_append_left hi]⟩
theorem itoa_calls (n : Nat) (hn : n ≤ 9223372036854775807) (w : World) (hz : Tz w) : Calls Tryz.prog 111 #[.int .i64 (n : Int)] w fun e w' => e = .returned (.string (str (Lib.decDigits n))) ∧ Below w.heap.size w w' := by
  refine (Tryz.strconv_Itoa (n : Int) (by omega) (by omega) w hz.tab).mono ?_
  rintro e w' ⟨rfl, k, os, rfl⟩
  refine ⟨?_, grow_below k os⟩
  have : Lib.itoa (n : Int) = Lib.decDigits n := by
    unfold Lib.itoa
    rw [if_neg (by omega), Int.toNat_natCast]
  rw [this]
  rfl
theorem str_append (a b : Nm) : str a ++ str b = str (a ++ b) := by
  unfold str
  apply ByteArray.ext
  simp
set_option maxRecDepth 20000 in
set_option maxHeartbeats 4000000 in
theorem fileName_calls (n : Nat) (hn : n < 10000000000000) (w : World) (hz : Tz w) : Calls Tryz.prog 75 #[.int .i64 (n : Int)] w fun e w' => e = .returned (.string (str (walNm n))) ∧ Below w.heap.size w w' := by
  have IC := hide (itoa_calls n (by omega) w hz)
  have hsz : (str (Lib.decDigits n)).size ≤ 13 := by rw [str_size]; exact dec_len 12 n hn
  have HS := hide (show (⟨#[119, 97, 108, 45]⟩ : ByteArray) ++ str (Lib.decDigits n) = str (walNm n) from str_append walW _)
  generalize str (Lib.decDigits n) = ds at *
  generalize str (walNm n) = nm at *
  clear hz
  go_enter Tryz.func75, Tryz.ntmps75
  go_wp2_with fail
  go_at_call 111
  refine (unhide IC).mono ?_
  rintro e V ⟨rfl, v1⟩
  have B1 := hide v1
  clear v1
  go_wp2
  go_ret
  exact ⟨by rw [← unhide HS]; rfl, unhide B1⟩
/-- How strconv.Atoi ends. -/
theorem atoi_ok (x : Nm) (hx : x.length ≤ 64) (v : Int) (h : Lib.atoiAll x = .ok v) (w : World) : Calls Tryz.prog 128 #[.string (str x)] w fun e w' => e = .returned (.tuple #[.int .i64 v, .nilIface]) ∧ Below w.heap.size w w' := by
  refine (Tryz.strconv_Atoi_ok (str x) (by rw [str_size]; omega) v h w).mono ?_
  rintro e w' ⟨rfl, rfl | ⟨t, rfl⟩⟩
  · exact ⟨rfl, Below.refl _ _⟩
  · exact ⟨rfl, bytesWorld_below w t⟩
theorem atoi_no (x : Nm) (hx : x.length ≤ 64) (h : ∀ v, Lib.atoiAll x ≠ .ok v) (w : World) (hz : Tz w) : Calls Tryz.prog 128 #[.string (str x)] w fun e w' => ∃ v t a, e = .returned (.tuple #[.int .i64 v, .iface t (.pointer (some a))]) ∧ Below w.heap.size w w' := by
  obtain ⟨e1, h1, h2⟩ := hz.sy
  obtain ⟨e2, h3, h4⟩ := hz.rg
  cases hh : Lib.atoiAll x with
  | ok v => exact absurd hh (h v)
  | «syntax» =>
    refine (Tryz.strconv_Atoi_syntax (str x) (by rw [str_size]; omega) hh e1 w h1 h2).mono ?_
    rintro e w' ⟨N, rfl, _, _, hb⟩
    exact ⟨_, _, _, rfl, hb⟩
  | range =>
    refine (Tryz.strconv_Atoi_range (str x) (by rw [str_size]; omega) hh e2 w h3 h4).mono ?_
    rintro e w' ⟨N, rfl, _, _, hb⟩
    exact ⟨_, _, _, rfl, hb⟩
theorem str_eqN (a b : Nm) : ((str a).toList == (str b).toList) = decide (a = b) := by
  have h1 : ∀ x : Nm, (str x).toList = x := fun x => by rw [ByteArray.toList_eq]; rfl
  rw [h1, h1]
  by_cases h : a = b
  · subst h; simp
  · rw [decide_eq_false h]
    simpa using h
theorem trim_len (s : Nm) (hs : s.length ≤ 64) : (Lib.trimPrefix s walW).length ≤ 64 := by
  unfold Lib.trimPrefix
  split
  · rw [List.length_drop]; omega
  · exact hs
set_option maxRecDepth 20000 in
set_option maxHeartbeats 8000000 in
theorem numberOf_calls (s : Nm) (hs : s.length ≤ 64) (w : World) (hz : Tz w) : Calls Tryz.prog 96 #[.string (str s)] w fun e w' => e = .returned (.int .i64 (numW s : Int)) ∧ Below w.heap.size w w' := by
  have CP := hide (show ∀ W, Calls Tryz.prog 127 #[.string (str s), .string ⟨#[119, 97, 108, 45]⟩] W fun e w' => e = .returned (.tuple #[.string (str (Lib.trimPrefix s walW)), .bool (Lib.hasPrefix s walW)]) ∧ w' = W from fun W => Tryz.strings_CutPrefix (str s) ⟨#[119, 97, 108, 45]⟩ W)
  have NW := hide (show numW s = (if Lib.hasPrefix s walW = true then (match Lib.atoiAll (Lib.trimPrefix s walW) with
    | .ok v => if 1 ≤ v ∧ v ≤ 1099511627776 ∧ walNm v.toNat = s then v.toNat else 0
    | _ => 0) else 0) from rfl)
  have htl := trim_len s hs
  have HZ := hide hz
  generalize numW s = nw at *
  by_cases hok : ∃ v, Lib.atoiAll (Lib.trimPrefix s walW) = .ok v
  · obtain ⟨v, hv⟩ := hok
    have AC := hide (fun W => atoi_ok _ htl v hv W)
    rw [hv] at NW
    dsimp only at NW
    obtain ⟨vb0, vb1⟩ := Lib.atoiAll_bounds hv
    generalize Lib.trimPrefix s walW = x at *
    clear hv hz htl
    cases hp : Lib.hasPrefix s walW with
    | false =>
      rw [hp, if_neg (by simp)] at NW
      rw [hp] at CP
      clear hp
      generalize str x = sx at *
      go_enter Tryz.func96, Tryz.ntmps96
      go_wp2_with fail
      go_at_call 127
      refine (unhide CP _).mono ?_
      rintro e V1 ⟨rfl, hV⟩
      subst hV
      go_wp2_with fail
      go_at_call 128
      refine (unhide AC _).mono ?_
      rintro e V2 ⟨rfl, v2⟩
      have B2 := hide v2
      clear v2
      go_wp2
      go_ret
      exact ⟨by rw [unhide NW]; rfl, unhide B2⟩
    | true =>
      rw [hp, if_pos rfl] at NW
      rw [hp] at CP
      clear hp
      by_cases h1 : v < 1
      · rw [if_neg (by omega)] at NW
        generalize str x = sx at *
        go_enter Tryz.func96, Tryz.ntmps96
        go_wp2_with fail
        go_at_call 127
        refine (unhide CP _).mono ?_
        rintro e V1 ⟨rfl, hV⟩
        subst hV
        go_wp2_with fail
        go_at_call 128
        refine (unhide AC _).mono ?_
        rintro e V2 ⟨rfl, v2⟩
        have B2 := hide v2
        clear v2
        go_wp2
        go_ret
        exact ⟨by rw [unhide NW]; rfl, unhide B2⟩
      · by_cases h2 : 1099511627776 < v
        · rw [if_neg (by omega)] at NW
          generalize str x = sx at *
          go_enter Tryz.func96, Tryz.ntmps96
          go_wp2_with fail
          go_at_call 127
          refine (unhide CP _).mono ?_
          rintro e V1 ⟨rfl, hV⟩
          subst hV
          go_wp2_with fail
          go_at_call 128
          refine (unhide AC _).mono ?_
          rintro e V2 ⟨rfl, v2⟩
          have B2 := hide v2
          clear v2
          go_wp2
          go_ret
          exact ⟨by rw [unhide NW]; rfl, unhide B2⟩
        · obtain ⟨n, rfl⟩ : ∃ n : Nat, v = (n : Int) := ⟨v.toNat, by omega⟩
          rw [Int.toNat_natCast] at NW
          have FC := hide (fun W (u : Below w.heap.size w W) => fileName_calls n (by omega) W ((unhide HZ).later u))
          have EQ := str_eqN (walNm n) s
          have hsz1 : (str (walNm n)).size ≤ 17 := by rw [str_size]; exact walNm_len n (by omega)
          have hsz2 : (str s).size ≤ 64 := by rw [str_size]; exact hs
          by_cases h3 : walNm n = s
          · rw [if_pos ⟨by omega, by omega, h3⟩] at NW
            rw [decide_eq_true h3] at EQ
            clear h3
            generalize str x = sx at *
            generalize str s = ss at *
            generalize str (walNm n) = sn at *
            go_enter Tryz.func96, Tryz.ntmps96
            go_wp2_with fail
            go_at_call 127
            refine (unhide CP _).mono ?_
            rintro e V1 ⟨rfl, hV⟩
            subst hV
            go_wp2_with fail
            go_at_call 128
            refine (unhide AC _).mono ?_
            rintro e V2 ⟨rfl, v2⟩
            have B2 := hide v2
            clear v2
            go_wp2_with fail
            go_at_call 75
            refine (unhide FC _ (unhide B2)).mono ?_
            rintro e V3 ⟨rfl, v3⟩
            have B3 := hide ((unhide B2).trans (v3.mono (unhide B2).size))
            clear v3
            go_wp2
            go_ret
            exact ⟨by rw [unhide NW]; rfl, unhide B3⟩
          · rw [if_neg (fun hh => h3 hh.2.2)] at NW
            rw [decide_eq_false h3] at EQ
            clear h3
            generalize str x = sx at *
            generalize str s = ss at *
            generalize str (walNm n) = sn at *
            go_enter Tryz.func96, Tryz.ntmps96
            go_wp2_with fail
            go_at_call 127
            refine (unhide CP _).mono ?_
            rintro e V1 ⟨rfl, hV⟩
            subst hV
            go_wp2_with fail
            go_at_call 128
            refine (unhide AC _).mono ?_
            rintro e V2 ⟨rfl, v2⟩
            have B2 := hide v2
            clear v2
            go_wp2_with fail
            go_at_call 75
            refine (unhide FC _ (unhide B2)).mono ?_
            rintro e V3 ⟨rfl, v3⟩
            have B3 := hide ((unhide B2).trans (v3.mono (unhide B2).size))
            clear v3
            go_wp2
            go_ret
            exact ⟨by rw [unhide NW]; rfl, unhide B3⟩
  · have hno : ∀ v, Lib.atoiAll (Lib.trimPrefix s walW) ≠ .ok v := fun v h => hok ⟨v, h⟩
    have AC := hide (fun W (u : Below w.heap.size w W) => atoi_no _ htl hno W ((unhide HZ).later u))
    have NZ := hide (show nw = 0 by
      rw [unhide NW]
      split
      · split
        · rename_i v hv
          exact absurd hv (hno v)
        · rfl
      · rfl)
    generalize Lib.trimPrefix s walW = x at *
    generalize Lib.hasPrefix s walW = hp at *
    generalize str x = sx at *
    clear hok hno hz htl
    cases hp with
    | false =>
      go_enter Tryz.func96, Tryz.ntmps96
      go_wp2_with fail
      go_at_call 127
      refine (unhide CP _).mono ?_
      rintro e V1 ⟨rfl, hV⟩
      subst hV
      go_wp2_with fail
      go_at_call 128
      refine (unhide AC _ (Below.refl _ _)).mono ?_
      rintro e V2 ⟨v, t, a, rfl, v2⟩
      have B2 := hide v2
      clear v2
      go_wp2
      go_ret
      exact ⟨by rw [unhide NZ]; rfl, unhide B2⟩
    | true =>
      go_enter Tryz.func96, Tryz.ntmps96
      go_wp2_with fail
      go_at_call 127
      refine (unhide CP _).mono ?_
      rintro e V1 ⟨rfl, hV⟩
      subst hV
      go_wp2_with fail
      go_at_call 128
      refine (unhide AC _ (Below.refl _ _)).mono ?_
      rintro e V2 ⟨v, t, a, rfl, v2⟩
      have B2 := hide v2
      clear v2
      go_wp2
      go_ret
      exact ⟨by rw [unhide NZ]; rfl, unhide B2⟩
/-- The greatest number of a log's file among names. -/
def greatW : List Nm → Nat → Nat
  | [], m => m
  | s :: l, m => greatW l (max m (numW s))
theorem greatW_snoc (l : List Nm) (s : Nm) (m : Nat) : greatW (l ++ [s]) m = max (greatW l m) (numW s) := by
  induction l generalizing m with
  | nil => rfl
  | cons x l ih => exact ih _
theorem numW_le (s : Nm) : numW s ≤ 1099511627776 := by
  rcases Nat.eq_zero_or_pos (numW s) with h | h
  · omega
  · exact (numW_is rfl h).2
theorem greatW_le (l : List Nm) (m : Nat) (hm : m ≤ 1099511627776) : greatW l m ≤ 1099511627776 := by
  induction l generalizing m with
  | nil => exact hm
  | cons x l ih => exact ih _ (by have := numW_le x; omega)
set_option maxRecDepth 20000 in
set_option maxHeartbeats 8000000 in
theorem greatest_calls {base : Nat} {w : World} {sp : Option Addr} {n c : Nat} {l : List Nm} (h : OwnN base w sp c l) (hn : l.length = n) (hm : n ≤ 1000) (hl : ∀ s ∈ l, s.length ≤ 64) (hz : Tz w) :
    Calls Tryz.prog 61 #[.slice sp n c] w fun e w' => e = .returned (.int .i64 (greatW l 0 : Int)) ∧ Below w.heap.size w w' := by
  have H := hide h
  have HN := hide hn
  have HL := hide hl
  have HZ := hide hz
  clear h hn hl hz
  go_enter Tryz.func61, Tryz.ntmps61
  go_wp2_with fail
  go_loopw [3, 8] (fun v i wr => ∃ j m : Nat, j ≤ n ∧ i = .int .i64 (j : Int) ∧ v = .int .i64 (m : Int) ∧ Hid (greatW (l.take j) 0 = m) ∧ m ≤ 1099511627776 ∧ Hid (Below w.heap.size w wr)) (fun _ i _ => n - (intOf i).toNat)
  case atStart => exact ⟨0, 0, by omega, rfl, rfl, hide rfl, by omega, hide (Below.refl _ _)⟩
  case round =>
    obtain ⟨j, m, hj, rfl, rfl, HG, hmm, F⟩ := hrel
    by_cases hjn : j < n
    · have y0 : (0 : Int) ≤ (j : Int) := by omega
      have y1 : (j : Int) < (n : Int) := by omega
      have hjl : j < l.length := by rw [unhide HN]; exact hjn
      obtain ⟨g, rfl, q0⟩ := (unhide H).cell j hjl
      have p0 := cell_later (unhide F) q0
      have NC := hide (numberOf_calls l[j] (unhide HL _ (List.getElem_mem hjl)) wr ((unhide HZ).later (unhide F)))
      have TS := hide (show greatW (l.take (j + 1)) 0 = max m (numW l[j]) by rw [List.take_succ_eq_append_getElem hjl, greatW_snoc, unhide HG])
      have hnl := numW_le l[j]
      clear q0
      generalize numW l[j] = nw at *
      generalize str l[j] = sj at *
      by_cases hc : m < nw
      · have TS' := hide (show greatW (l.take (j + 1)) 0 = nw by rw [unhide TS]; omega)
        have hc' : (m : Int) < (nw : Int) := by omega
        have hmx : max (m : Int) (nw : Int) = (nw : Int) := by omega
        go_wp2_with fail
        go_at_call 96
        refine (unhide NC).mono ?_
        rintro e V ⟨rfl, v1⟩
        have F1 := hide ((unhide F).trans (v1.mono (unhide F).size))
        clear v1
        go_wp2
        exact ⟨⟨j + 1, nw, by omega, by go_num, by first | rfl | go_num, TS', by omega, F1⟩, by simp [intOf]; omega⟩
      · have TS' := hide (show greatW (l.take (j + 1)) 0 = m by rw [unhide TS]; omega)
        have hc' : ¬ (m : Int) < (nw : Int) := by omega
        have hmx : max (m : Int) (nw : Int) = (m : Int) := by omega
        go_wp2_with fail
        go_at_call 96
        refine (unhide NC).mono ?_
        rintro e V ⟨rfl, v1⟩
        have F1 := hide ((unhide F).trans (v1.mono (unhide F).size))
        clear v1
        go_wp2
        exact ⟨⟨j + 1, m, by omega, by go_num, by first | rfl | go_num, TS', by omega, F1⟩, by simp [intOf]; omega⟩
    · have hjj : ¬ (j : Int) < (n : Int) := by omega
      obtain rfl : j = n := by omega
      have FE := hide (show greatW l 0 = m by have h := unhide HG; rwa [List.take_of_length_le (by rw [unhide HN]; exact Nat.le_refl _)] at h)
      go_wp2
      go_ret
      exact ⟨by rw [unhide FE]; rfl, unhide F⟩
end Go.Proofs.YtijcpmbfhfppmaaGreatDoor
end
/- Logs in memory, with their disks; File, Sync, and what a log tells. -/
section
namespace Go.Proofs.YtijcpmbfhfppmaaGreatDoor
open Go.ChangeShapes Go.WideShapes Go.ChangeAt Go.RowKit
set_option linter.unusedVariables false

/-- A log and its disk; the blocks of Av lie aside. -/
structure WAt (Av : Nat → Prop) (base : Nat) (w : World) (L d M room N : Nat) (ss : Ds) (c : Wc) (n : Nat) (ep : Option Addr) (ec : Nat) (hs : List (Option Addr × Nat)) : Prop where
  dk : DAt (fun g => Av g ∨ g = L ∨ LFoot ep hs g) base w d M room N ss
  lg : CtAt w L 96 [.pointer (some ⟨d, 0, none⟩)] [.int .i64 (n : Int)] c ep ec
  ow : OwnL base w ep ec c.es hs
  bl : base ≤ L
  av : ∀ g, Av g → g ≠ L ∧ ¬ LFoot ep hs g
  ok : WOk c
  nn : n ≤ 1099511627776
  le : c.es.length ≤ 1000000
  tz : ∃ w0 : World, w0.heap.size = base ∧ Tz w0 ∧ Below base w0 w
section
variable {Av : Nat → Prop} {base : Nat} {w w' : World} {L d M room N N' : Nat} {ss ss' : Ds} {c : Wc} {n : Nat} {ep : Option Addr} {ec : Nat} {hs : List (Option Addr × Nat)}
theorem WAt.later (z : WAt Av base w L d M room N ss c n ep ec hs) (u : Below w.heap.size w w') : WAt Av base w' L d M room N ss c n ep ec hs :=
  ⟨z.dk.later u, z.lg.later u, z.ow.later u, z.bl, z.av, z.ok, z.nn, z.le, let ⟨w0, h1, h2, h3⟩ := z.tz; ⟨w0, h1, h2, h3.trans (u.mono z.dk.le)⟩⟩
theorem WAt.disk (z : WAt Av base w L d M room N ss c n ep ec hs) (hd : DAt (fun g => Av g ∨ g = L ∨ LFoot ep hs g) base w' d M room N' ss') (ha : Asd (fun g => Av g ∨ g = L ∨ LFoot ep hs g) base w w') : WAt Av base w' L d M room N' ss' c n ep ec hs :=
  ⟨hd, z.lg.same (ha.av L (.inr (.inl rfl))), z.ow.same (fun g hg => ha.av g (.inr (.inr hg))), z.bl, z.av, z.ok, z.nn, z.le, let ⟨w0, h1, h2, h3⟩ := z.tz; ⟨w0, h1, h2, h3.trans ha.bel⟩⟩
theorem WAt.asd (z : WAt Av base w L d M room N ss c n ep ec hs) (ha : Asd (fun g => Av g ∨ g = L ∨ LFoot ep hs g) base w w') : Asd (fun g => Av g ∨ g = L ∨ LFoot ep hs g) base w w' := ha
theorem WAt.asdB (z : WAt Av base w L d M room N ss c n ep ec hs) (u : Below w.heap.size w w') : Asd (fun g => Av g ∨ g = L ∨ LFoot ep hs g) base w w' := Asd.of (fun g hg => z.dk.lt hg) z.dk.le u
theorem WAt.tzw (z : WAt Av base w L d M room N ss c n ep ec hs) : Tz w := by
  obtain ⟨w0, h1, h2, h3⟩ := z.tz
  exact h2.later (by rw [h1]; exact h3)
/-- What came later lies aside too. -/
theorem WAt.more (z : WAt Av base w L d M room N ss c n ep ec hs) (u : Below w.heap.size w w') : WAt (fun g => Av g ∨ (w.heap.size ≤ g ∧ g < w'.heap.size)) base w' L d M room N ss c n ep ec hs := by
  have z' := z.later u
  refine ⟨(z.dk.more u).av (fun g hg => ?_), z'.lg, z'.ow, z.bl, fun g hg => ?_, z.ok, z.nn, z.le, z'.tz⟩
  · rcases hg with (hg | hg) | hg | hg
    · exact .inl (.inl hg)
    · exact .inr hg
    · exact .inl (.inr (.inl hg))
    · exact .inl (.inr (.inr hg))
  · rcases hg with hg | hg
    · exact z.av g hg
    · refine ⟨fun e => ?_, fun hf => ?_⟩
      · have := z.lg.lt; omega
      · have := (z.ow.foot g hf).2.1; omega
theorem WAt.sub {Bv : Nat → Prop} (z : WAt Av base w L d M room N ss c n ep ec hs) (hb : ∀ g, Bv g → Av g) : WAt Bv base w L d M room N ss c n ep ec hs :=
  ⟨z.dk.av (fun g hg => hg.imp (hb g) id), z.lg, z.ow, z.bl, fun g hg => z.av g (hb g hg), z.ok, z.nn, z.le, z.tz⟩
theorem WAt.ptr (z : WAt Av base w L d M room N ss c n ep ec hs) : w.cell? ⟨L, 0, none⟩ = some (.pointer (some ⟨d, 0, none⟩)) ∧ w.cell? ⟨L, 6, none⟩ = some (.int .i64 (n : Int)) ∧ w.frozen? ⟨L, 6, none⟩ = false :=
  ⟨box_cell z.lg.row 0 _ rfl, box_cell z.lg.row 6 _ rfl, froz_of z.lg.row 6⟩
theorem WAt.ltL (z : WAt Av base w L d M room N ss c n ep ec hs) : L < w.heap.size := z.lg.lt
set_option maxRecDepth 20000 in
set_option maxHeartbeats 4000000 in
theorem file_calls (z : WAt Av base w L d M room N ss c n ep ec hs) : Calls Tryz.prog 34 #[.pointer (some ⟨L, 0, none⟩)] w fun e w' => e = .returned (.string (str (walNm n))) ∧ Below w.heap.size w w' := by
  obtain ⟨c0, c6, _⟩ := z.ptr
  have FC := hide (fileName_calls n (by have := z.nn; omega) w z.tzw)
  generalize str (walNm n) = nm at *
  clear z c0
  go_enter Tryz.func34, Tryz.ntmps34
  go_wp2_with fail
  go_at_call 75
  refine (unhide FC).mono ?_
  rintro e V ⟨rfl, v1⟩
  have B1 := hide v1
  clear v1
  go_wp2
  go_ret
  exact ⟨rfl, unhide B1⟩
/-- How a method of a log ends that changes its disk alone. -/
def WDEnd (Av : Nat → Prop) (base L d M room N : Nat) (w : World) (c : Wc) (n : Nat) (ep : Option Addr) (ec : Nat) (hs : List (Option Addr × Nat)) (r : Nat × Ds) (e : Ending) (w' : World) : Prop :=
  e = .returned (.int .i64 (r.1 : Int)) ∧ WAt Av base w' L d M room N r.2 c n ep ec hs ∧ Asd (fun g => Av g ∨ g = L ∨ LFoot ep hs g) base w w'
theorem nm_size (n : Nat) (hn : n ≤ 1099511627776) : (str (walNm n)).size ≤ maxLen := by
  rw [str_size]
  have := walNm_len n (by omega)
  simp only [maxLen]
  omega
set_option maxRecDepth 20000 in
set_option maxHeartbeats 4000000 in
theorem wsync_calls (z : WAt Av base w L d M room N ss c n ep ec hs) : Calls Tryz.prog 29 #[.pointer (some ⟨L, 0, none⟩)] w (WDEnd Av base L d M room N w c n ep ec hs (dSync (walNm n) ss)) := by
  obtain ⟨c0, _, _⟩ := z.ptr
  have Z := hide z
  have FC := hide (file_calls (z.later ((Below.refl _ _).drew)))
  have SC := hide (fun (W : World) (u : Below w.heap.size w W) => async_calls (z.dk.later u) (str (walNm n)) (nm_size n z.nn))
  rw [str_list] at SC
  have d0 : w.drew.cell? ⟨L, 0, none⟩ = some (.pointer (some ⟨d, 0, none⟩)) := c0
  generalize str (walNm n) = nm at *
  clear z
  go_enter Tryz.func29, Tryz.ntmps29
  go_wp2_with fail
  refine wp_region_held_drew (S := fun w' => w'.cell? ⟨L, 0, none⟩ = some (.pointer (some ⟨d, 0, none⟩))) (by kernel_rfl) ?_ (fun hHeld => ?_)
  · try dsimp only
    first | exact d0 | exact d1 | exact d2
  refine held_take 0 (oi := { dst := some 5, op := Op.move (Operand.tmp 0), type := 39, pos := "wal.go:86", after := #[], guard := none }) (v := ?_) (by kernel_rfl) rfl (by rfl) (by kernel_rfl) (by kernel_rfl) (fun _ _ _ h => h) ?_ (by assumption) ?_
  rotate_left
  · (intro w hSw; (try dsimp only at hSw); go_simp; try with_reducible rfl)
  try simp only [Act.put, List.setIfInBounds_toArray, List.set_cons_zero, List.set_cons_succ]
  refine held_take 1 (oi := { dst := some 6, op := Op.nilCheck (Operand.tmp 5), type := 0, pos := "wal.go:86", after := #[{ on := 0, ground := Ground.data }], guard := none }) (v := ?_) (by kernel_rfl) rfl (by rfl) (by kernel_rfl) (by kernel_rfl) (fun _ _ _ h => h) ?_ (by assumption) ?_
  rotate_left
  · (intro w hSw; (try dsimp only at hSw); go_simp; try with_reducible rfl)
  try simp only [Act.put, List.setIfInBounds_toArray, List.set_cons_zero, List.set_cons_succ]
  refine held_take 2 (oi := { dst := some 7, op := Op.fieldAddr 96 (Operand.tmp 6) 0, type := 0, pos := "wal.go:86", after := #[{ on := 1, ground := Ground.data }], guard := none }) (v := ?_) (by kernel_rfl) rfl (by rfl) (by kernel_rfl) (by kernel_rfl) (fun _ _ _ h => h) ?_ (by assumption) ?_
  rotate_left
  · (intro w hSw; (try dsimp only at hSw); go_simp; try with_reducible rfl)
  try simp only [Act.put, List.setIfInBounds_toArray, List.set_cons_zero, List.set_cons_succ]
  refine held_take 3 (oi := { dst := some 8, op := Op.load 38 (Operand.tmp 7), type := 38, pos := "wal.go:86", after := #[{ on := 2, ground := Ground.data }], guard := none }) (v := ?_) (by kernel_rfl) rfl (by rfl) (by kernel_rfl) (by kernel_rfl) (fun _ _ _ h => h) ?_ (by assumption) ?_
  rotate_left
  · (intro w hSw; (try dsimp only at hSw); go_simp; try with_reducible rfl)
  try simp only [Act.put, List.setIfInBounds_toArray, List.set_cons_zero, List.set_cons_succ]
  refine held_take 4 (oi := { dst := some 9, op := Op.move (Operand.tmp 0), type := 39, pos := "wal.go:86", after := #[], guard := none }) (v := ?_) (by kernel_rfl) rfl (by rfl) (by kernel_rfl) (by kernel_rfl) (fun _ _ _ h => h) ?_ (by assumption) ?_
  rotate_left
  · (intro w hSw; (try dsimp only at hSw); go_simp; try with_reducible rfl)
  try simp only [Act.put, List.setIfInBounds_toArray, List.set_cons_zero, List.set_cons_succ]
  refine held_one 5 (oi := { dst := some 10, op := Op.call { callee := Callee.value (Operand.func 34), args := #[Operand.tmp 9], argTypes := #[39] }, type := 9, pos := "wal.go:86", after := #[{ on := 4, ground := Ground.data }], guard := none }) (by kernel_rfl) rfl (fun K hK => ?_)
  go_simp
  first
    | (go_at_call 34
       refine (unhide FC).mono ?_
       rintro e V1 ⟨rfl, v1⟩
       have d1 := cell_later v1 d0
       have B1 := hide (show Below w.heap.size w V1 from ⟨v1.os, v1.tape, v1.output, v1.size, v1.block⟩)
       clear v1)
    | (go_at_call 37
       refine (unhide SC _ (unhide B1)).mono ?_
       rintro e V2 ⟨rfl, dk2, as2⟩
       have Z2 := hide (((unhide Z).later (unhide B1)).disk dk2 as2)
       have A2 := hide (((unhide Z).asdB (unhide B1)).trans (((unhide Z).later (unhide B1)).asd as2))
       have d2 := (unhide Z2).ptr.1
       clear dk2 as2)
  go_wp2_with fail
  refine hK.out _ _ ?_ (fun hHeld => ?_)
  · try dsimp only
    first | exact d0 | exact d1 | exact d2
  clear hK K
  try simp only [Act.put, List.setIfInBounds_toArray, List.set_cons_zero, List.set_cons_succ]
  refine held_one 6 (oi := { dst := some 11, op := Op.call { callee := Callee.value (Operand.func 37), args := #[Operand.tmp 8, Operand.tmp 10], argTypes := #[38, 9] }, type := 49, pos := "wal.go:86", after := #[{ on := 3, ground := Ground.data }, { on := 5, ground := Ground.data }, { on := 5, ground := Ground.chain }], guard := none }) (by kernel_rfl) rfl (fun K hK => ?_)
  go_simp
  first
    | (go_at_call 34
       refine (unhide FC).mono ?_
       rintro e V1 ⟨rfl, v1⟩
       have d1 := cell_later v1 d0
       have B1 := hide (show Below w.heap.size w V1 from ⟨v1.os, v1.tape, v1.output, v1.size, v1.block⟩)
       clear v1)
    | (go_at_call 37
       refine (unhide SC _ (unhide B1)).mono ?_
       rintro e V2 ⟨rfl, dk2, as2⟩
       have Z2 := hide (((unhide Z).later (unhide B1)).disk dk2 as2)
       have A2 := hide (((unhide Z).asdB (unhide B1)).trans (((unhide Z).later (unhide B1)).asd as2))
       have d2 := (unhide Z2).ptr.1
       clear dk2 as2)
  go_wp2_with fail
  refine hK.out _ _ ?_ (fun hHeld => ?_)
  · try dsimp only
    first | exact d0 | exact d1 | exact d2
  clear hK K
  try simp only [Act.put, List.setIfInBounds_toArray, List.set_cons_zero, List.set_cons_succ]
  refine held_take 7 (oi := { dst := some 2, op := Op.assign (Operand.tmp 11), type := 49, pos := "wal.go:86", after := #[{ on := 6, ground := Ground.data }, { on := 6, ground := Ground.chain }, { on := 0, ground := Ground.phase }, { on := 1, ground := Ground.phase }, { on := 2, ground := Ground.phase }, { on := 3, ground := Ground.phase }, { on := 4, ground := Ground.phase }, { on := 5, ground := Ground.phase }, { on := 6, ground := Ground.phase }], guard := none }) (v := ?_) (by kernel_rfl) rfl (by rfl) (by kernel_rfl) (by kernel_rfl) (fun _ _ _ h => h) ?_ (by assumption) ?_
  rotate_left
  · (intro w hSw; (try dsimp only at hSw); go_simp; try with_reducible rfl)
  try simp only [Act.put, List.setIfInBounds_toArray, List.set_cons_zero, List.set_cons_succ]
  refine wpAnyH_done (by kernel_rfl) ?_ _
  go_wp2
  go_ret
  exact ⟨rfl, unhide Z2, unhide A2⟩
set_option maxRecDepth 20000 in
set_option maxHeartbeats 4000000 in
theorem wlast_calls (z : WAt Av base w L d M room N ss c n ep ec hs) : Calls Tryz.prog 39 #[.pointer (some ⟨L, 0, none⟩)] w fun e w' => e = .returned (.int .i64 ((c.bi + c.es.length : Nat) : Int)) ∧ Below w.heap.size w w' := by
  have LC := hide (last_calls z.lg 1 rfl z.ok.bi (by have := z.le; omega))
  generalize ((c.bi + c.es.length : Nat) : Int) = la at *
  clear z
  go_enter Tryz.func39, Tryz.ntmps39
  go_wp2_with fail
  go_at_call 83
  refine (unhide LC).mono ?_
  rintro e V ⟨rfl, v1⟩
  have B1 := hide v1
  clear v1
  go_wp2
  go_ret
  exact ⟨rfl, unhide B1⟩
set_option maxRecDepth 20000 in
set_option maxHeartbeats 4000000 in
theorem wterm_calls (z : WAt Av base w L d M room N ss c n ep ec hs) (i : Int) (hi : -9223372036854775808 ≤ i ∧ i ≤ 9223372036854775807) : Calls Tryz.prog 19 #[.pointer (some ⟨L, 0, none⟩), .int .i64 i] w fun e w' => e = .returned (.tuple #[.int .i64 (termW c i).1, .bool (termW c i).2]) ∧ Below w.heap.size w w' := by
  have LC := hide (term_calls z.lg 1 rfl z.ok.bi (by have := z.le; omega) z.ow i hi)
  generalize termW c i = tw at *
  obtain ⟨t1, t2⟩ := tw
  dsimp only at *
  clear z
  go_enter Tryz.func19, Tryz.ntmps19
  go_wp2_with fail
  go_at_call 58
  refine (unhide LC).mono ?_
  rintro e V ⟨rfl, v1⟩
  have B1 := hide v1
  clear v1
  go_wp2
  go_ret2
  exact ⟨rfl, unhide B1⟩
end
end Go.Proofs.YtijcpmbfhfppmaaGreatDoor
end
/- Logs: is a name among names? -/
section
namespace Go.Proofs.YtijcpmbfhfppmaaGreatDoor
open Go.ChangeShapes Go.WideShapes Go.ChangeAt Go.RowKit
set_option linter.unusedVariables false

def IdxIs (s : Nm) (l : List Nm) (i : Int) : Prop := decide (0 ≤ i) = decide (s ∈ l) ∧ i ≤ 1000 ∧ -1 ≤ i
section
variable {base : Nat} {w : World} {sp : Option Addr} {n c : Nat} {l : List Nm}
set_option maxRecDepth 20000 in
set_option maxHeartbeats 8000000 in
theorem indexS_calls (h : OwnN base w sp c l) (hn : l.length = n) (hm : n ≤ 1000) (s : Nm) :
    Calls Tryz.prog 159 #[.slice sp n c, .string (str s)] w fun e w' => (∃ i : Int, e = .returned (.int .i64 i) ∧ IdxIs s l i) ∧ w' = w := by
  have H := hide h
  have HN := hide hn
  clear h hn
  go_enter Tryz.func159, Tryz.ntmps159
  go_wp2_with fail
  go_loopw [8] (fun i wr => ∃ j : Nat, j ≤ n ∧ i = .int .i64 (j : Int) ∧ Hid (s ∉ l.take j) ∧ Hid (wr = w)) (fun i _ => n - (intOf i).toNat)
  case atStart => exact ⟨0, by omega, rfl, hide (by simp), hide rfl⟩
  case round =>
    obtain ⟨j, hj, rfl, HT, HW⟩ := hrel
    have hw := unhide HW
    subst hw
    by_cases hjn : j < n
    · have y0 : (0 : Int) ≤ (j : Int) := by omega
      have y1 : (j : Int) < (n : Int) := by omega
      have hjl : j < l.length := by rw [unhide HN]; exact hjn
      obtain ⟨g, rfl, q0⟩ := (unhide H).cell j hjl
      have EQ := str_eqN s l[j]
      have TS := hide (show l.take (j + 1) = l.take j ++ [l[j]] by rw [List.take_succ_eq_append_getElem hjl])
      have ME := hide (List.getElem_mem hjl)
      generalize l[j] = x at *
      by_cases hx : s = x
      · rw [decide_eq_true hx] at EQ
        have FE := hide (show decide ((0 : Int) ≤ (j : Int)) = decide (s ∈ l) by
          rw [decide_eq_true y0, decide_eq_true (by rw [hx]; exact unhide ME)])
        clear hx
        generalize str x = sx at *
        generalize str s = sy at *
        go_wp2
        go_ret
        exact ⟨⟨_, rfl, unhide FE, by omega, by omega⟩, rfl⟩
      · rw [decide_eq_false hx] at EQ
        have HT' := hide (show s ∉ l.take (j + 1) by
          rw [unhide TS]
          intro hm
          rcases List.mem_append.1 hm with h | h
          · exact unhide HT h
          · rw [List.mem_singleton] at h
            exact hx h)
        clear hx
        generalize str x = sx at *
        generalize str s = sy at *
        go_wp2
        exact ⟨⟨j + 1, by omega, by go_num, HT', by first | exact HW | exact hide trivial | exact hide rfl⟩, by simp [intOf]; omega⟩
    · have hjj : ¬ (j : Int) < (n : Int) := by omega
      obtain rfl : j = n := by omega
      have FE := hide (show decide ((0 : Int) ≤ (-1 : Int)) = decide (s ∈ l) by
        have h := unhide HT
        rw [List.take_of_length_le (by rw [unhide HN]; exact Nat.le_refl _)] at h
        rw [decide_eq_false h]
        rfl)
      go_wp2
      go_ret
      exact ⟨⟨-1, rfl, unhide FE, by omega, by omega⟩, rfl⟩
set_option maxRecDepth 20000 in
theorem contains_calls (h : OwnN base w sp c l) (hn : l.length = n) (hm : n ≤ 1000) (s : Nm) :
    Calls Tryz.prog 129 #[.slice sp n c, .string (str s)] w fun e w' => e = .returned (.bool (decide (s ∈ l))) ∧ w' = w := by
  have IC := hide (indexS_calls h hn hm s)
  obtain ⟨dd, hdd⟩ : ∃ dd, decide (s ∈ l) = dd := ⟨_, rfl⟩
  have DD := hide hdd
  rw [hdd]
  clear hdd h
  generalize str s = sy at *
  go_enter Tryz.func129, Tryz.ntmps129
  go_wp2_with fail
  go_at_call 159
  refine (unhide IC).mono ?_
  rintro e V ⟨⟨i, rfl, hi⟩, rfl⟩
  obtain ⟨hd, h1, h2⟩ := hi
  have HD := hide (hd.trans (unhide DD))
  clear hd
  go_wp2
  go_ret
  exact ⟨by rw [← unhide HD]; rfl, rfl⟩
end
end Go.Proofs.YtijcpmbfhfppmaaGreatDoor
end
