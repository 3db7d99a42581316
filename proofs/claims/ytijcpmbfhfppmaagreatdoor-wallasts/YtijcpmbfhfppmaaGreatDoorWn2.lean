/- Logs: fileName, numberOf, greatest. -/
import Derived.Test.YtijcpmbfhfppmaaGreatDoorWn1
import Derived.Test.YtijcpmbfhfppmaaGreatDoorWsh
import Derived.Test.YtijcpmbfhfppmaaGreatDoorWd1
import Derived.Test.YtijcpmbfhfppmaaGreatDoorWb0
namespace Go.Proofs.YtijcpmbfhfppmaaGreatDoor
open Go.ChangeShapes Go.WideShapes Go.ChangeAt Go.RowKit Go.Sort
set_option linter.unusedVariables false

/-- What the library's texts of numbers read. -/
structure Tz (w : World) : Prop where
  tab : Lib.TabIs Tryz.prog w "internal/strconv.uint64pow10" .u64 Lib.pow10Tab
  sy : ∃ ev, w.cell? ⟨Tryz.laysC172_ren.g 15, 0, none⟩ = some ev ∧ (ev = .nilIface ∨ ∃ te pe, ev = .iface te pe)
  rg : ∃ ev, w.cell? ⟨Tryz.laysC172_ren.g 16, 0, none⟩ = some ev ∧ (ev = .nilIface ∨ ∃ te pe, ev = .iface te pe)
theorem tab_later {n : String} {g : Nat} {k : IntKind} {zs : List Int} {w w' : World} (hg : Tryz.prog.globalNamed n = some g) (h : Lib.TabIs Tryz.prog w n k zs) (hb : Below w.heap.size w w') : Lib.TabIs Tryz.prog w' n k zs := by
  unfold Lib.TabIs World.var? at h ⊢
  rw [hg] at h ⊢
  simp only [Option.bind_some] at h ⊢
  have hlt : g < w.heap.size := by
    rcases Nat.lt_or_ge g w.heap.size with h' | h'
    · exact h'
    · rw [Array.getElem?_eq_none h'] at h; cases h
  rw [hb.block g hlt]
  exact h
theorem pow_global : ∃ g, Tryz.prog.globalNamed "internal/strconv.uint64pow10" = some g := Option.isSome_iff_exists.1 (show (Tryz.prog.globalNamed "internal/strconv.uint64pow10").isSome = true by kernel_rfl)
theorem Tz.later {w w' : World} (h : Tz w) (hb : Below w.heap.size w w') : Tz w' := by
  obtain ⟨g, hg⟩ := pow_global
  obtain ⟨e1, h1, h2⟩ := h.sy
  obtain ⟨e2, h3, h4⟩ := h.rg
  exact ⟨tab_later hg h.tab hb, ⟨e1, cell_later hb h1, h2⟩, ⟨e2, cell_later hb h3, h4⟩⟩
theorem grow_below {w : World} (k : Nat) (os : Array Obj) : Below w.heap.size w (grow (w.drewN k) os) :=
  ⟨rfl, rfl, rfl, by show w.heap.size ≤ (w.heap ++ os).size; simp, fun i hi => by show (w.heap ++ os)[i]? = _; rw [Array.getElem?_append_left hi]⟩
theorem itoa_calls (n : Nat) (hn : n ≤ 9223372036854775807) (w : World) (hz : Tz w) : Calls Tryz.prog 111 #[.int .i64 (n : Int)] w fun e w' => e = .returned (.string (str (Lib.decDigits n))) ∧ Below w.heap.size w w' := by
  refine (Tryz.strconv_Itoa (n : Int) (by omega) (by omega) w hz.tab).mono ?_
  rintro e w' ⟨rfl, k, os, rfl⟩
  refine ⟨?_, grow_below k os⟩
  have : Lib.itoa (n : Int) = Lib.decDigits n := by
    unfold Lib.itoa
    rw [if_neg (by omega), Int.toNat_natCast]
  rw [this]
  rfl
theorem str_append (a b : Nm) : str a ++ str b = str (a ++ b) := by
  unfold str
  apply ByteArray.ext
  simp
set_option maxRecDepth 20000 in
set_option maxHeartbeats 4000000 in
theorem fileName_calls (n : Nat) (hn : n < 10000000000000) (w : World) (hz : Tz w) : Calls Tryz.prog 75 #[.int .i64 (n : Int)] w fun e w' => e = .returned (.string (str (walNm n))) ∧ Below w.heap.size w w' := by
  have IC := hide (itoa_calls n (by omega) w hz)
  have hsz : (str (Lib.decDigits n)).size ≤ 13 := by rw [str_size]; exact dec_len 12 n hn
  have HS := hide (show (⟨#[119, 97, 108, 45]⟩ : ByteArray) ++ str (Lib.decDigits n) = str (walNm n) from str_append walW _)
  generalize str (Lib.decDigits n) = ds at *
  generalize str (walNm n) = nm at *
  clear hz
  go_enter Tryz.func75, Tryz.ntmps75
  go_wp2_with fail
  go_at_call 111
  refine (unhide IC).mono ?_
  rintro e V ⟨rfl, v1⟩
  have B1 := hide v1
  clear v1
  go_wp2
  go_ret
  exact ⟨by rw [← unhide HS]; rfl, unhide B1⟩
/-- How strconv.Atoi ends. -/
theorem atoi_ok (x : Nm) (hx : x.length ≤ 64) (v : Int) (h : Lib.atoiAll x = .ok v) (w : World) : Calls Tryz.prog 128 #[.string (str x)] w fun e w' => e = .returned (.tuple #[.int .i64 v, .nilIface]) ∧ Below w.heap.size w w' := by
  refine (Tryz.strconv_Atoi_ok (str x) (by rw [str_size]; omega) v h w).mono ?_
  rintro e w' ⟨rfl, rfl | ⟨t, rfl⟩⟩
  · exact ⟨rfl, Below.refl _ _⟩
  · exact ⟨rfl, bytesWorld_below w t⟩
theorem atoi_no (x : Nm) (hx : x.length ≤ 64) (h : ∀ v, Lib.atoiAll x ≠ .ok v) (w : World) (hz : Tz w) : Calls Tryz.prog 128 #[.string (str x)] w fun e w' => ∃ v t a, e = .returned (.tuple #[.int .i64 v, .iface t (.pointer (some a))]) ∧ Below w.heap.size w w' := by
  obtain ⟨e1, h1, h2⟩ := hz.sy
  obtain ⟨e2, h3, h4⟩ := hz.rg
  cases hh : Lib.atoiAll x with
  | ok v => exact absurd hh (h v)
  | «syntax» =>
    refine (Tryz.strconv_Atoi_syntax (str x) (by rw [str_size]; omega) hh e1 w h1 h2).mono ?_
    rintro e w' ⟨N, rfl, _, _, hb⟩
    exact ⟨_, _, _, rfl, hb⟩
  | range =>
    refine (Tryz.strconv_Atoi_range (str x) (by rw [str_size]; omega) hh e2 w h3 h4).mono ?_
    rintro e w' ⟨N, rfl, _, _, hb⟩
    exact ⟨_, _, _, rfl, hb⟩
theorem str_eqN (a b : Nm) : ((str a).toList == (str b).toList) = decide (a = b) := by
  have h1 : ∀ x : Nm, (str x).toList = x := fun x => by rw [ByteArray.toList_eq]; rfl
  rw [h1, h1]
  by_cases h : a = b
  · subst h; simp
  · rw [decide_eq_false h]
    simpa using h
theorem trim_len (s : Nm) (hs : s.length ≤ 64) : (Lib.trimPrefix s walW).length ≤ 64 := by
  unfold Lib.trimPrefix
  split
  · rw [List.length_drop]; omega
  · exact hs
set_option maxRecDepth 20000 in
set_option maxHeartbeats 8000000 in
theorem numberOf_calls (s : Nm) (hs : s.length ≤ 64) (w : World) (hz : Tz w) : Calls Tryz.prog 96 #[.string (str s)] w fun e w' => e = .returned (.int .i64 (numW s : Int)) ∧ Below w.heap.size w w' := by
  have CP := hide (show ∀ W, Calls Tryz.prog 127 #[.string (str s), .string ⟨#[119, 97, 108, 45]⟩] W fun e w' => e = .returned (.tuple #[.string (str (Lib.trimPrefix s walW)), .bool (Lib.hasPrefix s walW)]) ∧ w' = W from fun W => Tryz.strings_CutPrefix (str s) ⟨#[119, 97, 108, 45]⟩ W)
  have NW := hide (show numW s = (if Lib.hasPrefix s walW = true then (match Lib.atoiAll (Lib.trimPrefix s walW) with
    | .ok v => if 1 ≤ v ∧ v ≤ 1099511627776 ∧ walNm v.toNat = s then v.toNat else 0
    | _ => 0) else 0) from rfl)
  have htl := trim_len s hs
  have HZ := hide hz
  generalize numW s = nw at *
  by_cases hok : ∃ v, Lib.atoiAll (Lib.trimPrefix s walW) = .ok v
  · obtain ⟨v, hv⟩ := hok
    have AC := hide (fun W => atoi_ok _ htl v hv W)
    rw [hv] at NW
    dsimp only at NW
    obtain ⟨vb0, vb1⟩ := Lib.atoiAll_bounds hv
    generalize Lib.trimPrefix s walW = x at *
    clear hv hz htl
    cases hp : Lib.hasPrefix s walW with
    | false =>
      rw [hp, if_neg (by simp)] at NW
      rw [hp] at CP
      clear hp
      generalize str x = sx at *
      go_enter Tryz.func96, Tryz.ntmps96
      go_wp2_with fail
      go_at_call 127
      refine (unhide CP _).mono ?_
      rintro e V1 ⟨rfl, hV⟩
      subst hV
      go_wp2_with fail
      go_at_call 128
      refine (unhide AC _).mono ?_
      rintro e V2 ⟨rfl, v2⟩
      have B2 := hide v2
      clear v2
      go_wp2
      go_ret
      exact ⟨by rw [unhide NW]; rfl, unhide B2⟩
    | true =>
      rw [hp, if_pos rfl] at NW
      rw [hp] at CP
      clear hp
      by_cases h1 : v < 1
      · rw [if_neg (by omega)] at NW
        generalize str x = sx at *
        go_enter Tryz.func96, Tryz.ntmps96
        go_wp2_with fail
        go_at_call 127
        refine (unhide CP _).mono ?_
        rintro e V1 ⟨rfl, hV⟩
        subst hV
        go_wp2_with fail
        go_at_call 128
        refine (unhide AC _).mono ?_
        rintro e V2 ⟨rfl, v2⟩
        have B2 := hide v2
        clear v2
        go_wp2
        go_ret
        exact ⟨by rw [unhide NW]; rfl, unhide B2⟩
      · by_cases h2 : 1099511627776 < v
        · rw [if_neg (by omega)] at NW
          generalize str x = sx at *
          go_enter Tryz.func96, Tryz.ntmps96
          go_wp2_with fail
          go_at_call 127
          refine (unhide CP _).mono ?_
          rintro e V1 ⟨rfl, hV⟩
          subst hV
          go_wp2_with fail
          go_at_call 128
          refine (unhide AC _).mono ?_
          rintro e V2 ⟨rfl, v2⟩
          have B2 := hide v2
          clear v2
          go_wp2
          go_ret
          exact ⟨by rw [unhide NW]; rfl, unhide B2⟩
        · obtain ⟨n, rfl⟩ : ∃ n : Nat, v = (n : Int) := ⟨v.toNat, by omega⟩
          rw [Int.toNat_natCast] at NW
          have FC := hide (fun W (u : Below w.heap.size w W) => fileName_calls n (by omega) W ((unhide HZ).later u))
          have EQ := str_eqN (walNm n) s
          have hsz1 : (str (walNm n)).size ≤ 17 := by rw [str_size]; exact walNm_len n (by omega)
          have hsz2 : (str s).size ≤ 64 := by rw [str_size]; exact hs
          by_cases h3 : walNm n = s
          · rw [if_pos ⟨by omega, by omega, h3⟩] at NW
            rw [decide_eq_true h3] at EQ
            clear h3
            generalize str x = sx at *
            generalize str s = ss at *
            generalize str (walNm n) = sn at *
            go_enter Tryz.func96, Tryz.ntmps96
            go_wp2_with fail
            go_at_call 127
            refine (unhide CP _).mono ?_
            rintro e V1 ⟨rfl, hV⟩
            subst hV
            go_wp2_with fail
            go_at_call 128
            refine (unhide AC _).mono ?_
            rintro e V2 ⟨rfl, v2⟩
            have B2 := hide v2
            clear v2
            go_wp2_with fail
            go_at_call 75
            refine (unhide FC _ (unhide B2)).mono ?_
            rintro e V3 ⟨rfl, v3⟩
            have B3 := hide ((unhide B2).trans (v3.mono (unhide B2).size))
            clear v3
            go_wp2
            go_ret
            exact ⟨by rw [unhide NW]; rfl, unhide B3⟩
          · rw [if_neg (fun hh => h3 hh.2.2)] at NW
            rw [decide_eq_false h3] at EQ
            clear h3
            generalize str x = sx at *
            generalize str s = ss at *
            generalize str (walNm n) = sn at *
            go_enter Tryz.func96, Tryz.ntmps96
            go_wp2_with fail
            go_at_call 127
            refine (unhide CP _).mono ?_
            rintro e V1 ⟨rfl, hV⟩
            subst hV
            go_wp2_with fail
            go_at_call 128
            refine (unhide AC _).mono ?_
            rintro e V2 ⟨rfl, v2⟩
            have B2 := hide v2
            clear v2
            go_wp2_with fail
            go_at_call 75
            refine (unhide FC _ (unhide B2)).mono ?_
            rintro e V3 ⟨rfl, v3⟩
            have B3 := hide ((unhide B2).trans (v3.mono (unhide B2).size))
            clear v3
            go_wp2
            go_ret
            exact ⟨by rw [unhide NW]; rfl, unhide B3⟩
  · have hno : ∀ v, Lib.atoiAll (Lib.trimPrefix s walW) ≠ .ok v := fun v h => hok ⟨v, h⟩
    have AC := hide (fun W (u : Below w.heap.size w W) => atoi_no _ htl hno W ((unhide HZ).later u))
    have NZ := hide (show nw = 0 by
      rw [unhide NW]
      split
      · split
        · rename_i v hv
          exact absurd hv (hno v)
        · rfl
      · rfl)
    generalize Lib.trimPrefix s walW = x at *
    generalize Lib.hasPrefix s walW = hp at *
    generalize str x = sx at *
    clear hok hno hz htl
    cases hp with
    | false =>
      go_enter Tryz.func96, Tryz.ntmps96
      go_wp2_with fail
      go_at_call 127
      refine (unhide CP _).mono ?_
      rintro e V1 ⟨rfl, hV⟩
      subst hV
      go_wp2_with fail
      go_at_call 128
      refine (unhide AC _ (Below.refl _ _)).mono ?_
      rintro e V2 ⟨v, t, a, rfl, v2⟩
      have B2 := hide v2
      clear v2
      go_wp2
      go_ret
      exact ⟨by rw [unhide NZ]; rfl, unhide B2⟩
    | true =>
      go_enter Tryz.func96, Tryz.ntmps96
      go_wp2_with fail
      go_at_call 127
      refine (unhide CP _).mono ?_
      rintro e V1 ⟨rfl, hV⟩
      subst hV
      go_wp2_with fail
      go_at_call 128
      refine (unhide AC _ (Below.refl _ _)).mono ?_
      rintro e V2 ⟨v, t, a, rfl, v2⟩
      have B2 := hide v2
      clear v2
      go_wp2
      go_ret
      exact ⟨by rw [unhide NZ]; rfl, unhide B2⟩
/-- The greatest number of a log's file among names. -/
def greatW : List Nm → Nat → Nat
  | [], m => m
  | s :: l, m => greatW l (max m (numW s))
theorem greatW_snoc (l : List Nm) (s : Nm) (m : Nat) : greatW (l ++ [s]) m = max (greatW l m) (numW s) := by
  induction l generalizing m with
  | nil => rfl
  | cons x l ih => exact ih _
theorem numW_le (s : Nm) : numW s ≤ 1099511627776 := by
  rcases Nat.eq_zero_or_pos (numW s) with h | h
  · omega
  · exact (numW_is rfl h).2
theorem greatW_le (l : List Nm) (m : Nat) (hm : m ≤ 1099511627776) : greatW l m ≤ 1099511627776 := by
  induction l generalizing m with
  | nil => exact hm
  | cons x l ih => exact ih _ (by have := numW_le x; omega)
set_option maxRecDepth 20000 in
set_option maxHeartbeats 8000000 in
theorem greatest_calls {base : Nat} {w : World} {sp : Option Addr} {n c : Nat} {l : List Nm} (h : OwnN base w sp c l) (hn : l.length = n) (hm : n ≤ 1000) (hl : ∀ s ∈ l, s.length ≤ 64) (hz : Tz w) :
    Calls Tryz.prog 61 #[.slice sp n c] w fun e w' => e = .returned (.int .i64 (greatW l 0 : Int)) ∧ Below w.heap.size w w' := by
  have H := hide h
  have HN := hide hn
  have HL := hide hl
  have HZ := hide hz
  clear h hn hl hz
  go_enter Tryz.func61, Tryz.ntmps61
  go_wp2_with fail
  go_loopw [3, 8] (fun v i wr => ∃ j m : Nat, j ≤ n ∧ i = .int .i64 (j : Int) ∧ v = .int .i64 (m : Int) ∧ Hid (greatW (l.take j) 0 = m) ∧ m ≤ 1099511627776 ∧ Hid (Below w.heap.size w wr)) (fun _ i _ => n - (intOf i).toNat)
  case atStart => exact ⟨0, 0, by omega, rfl, rfl, hide rfl, by omega, hide (Below.refl _ _)⟩
  case round =>
    obtain ⟨j, m, hj, rfl, rfl, HG, hmm, F⟩ := hrel
    by_cases hjn : j < n
    · have y0 : (0 : Int) ≤ (j : Int) := by omega
      have y1 : (j : Int) < (n : Int) := by omega
      have hjl : j < l.length := by rw [unhide HN]; exact hjn
      obtain ⟨g, rfl, q0⟩ := (unhide H).cell j hjl
      have p0 := cell_later (unhide F) q0
      have NC := hide (numberOf_calls l[j] (unhide HL _ (List.getElem_mem hjl)) wr ((unhide HZ).later (unhide F)))
      have TS := hide (show greatW (l.take (j + 1)) 0 = max m (numW l[j]) by rw [List.take_succ_eq_append_getElem hjl, greatW_snoc, unhide HG])
      have hnl := numW_le l[j]
      clear q0
      generalize numW l[j] = nw at *
      generalize str l[j] = sj at *
      by_cases hc : m < nw
      · have TS' := hide (show greatW (l.take (j + 1)) 0 = nw by rw [unhide TS]; omega)
        have hc' : (m : Int) < (nw : Int) := by omega
        have hmx : max (m : Int) (nw : Int) = (nw : Int) := by omega
        go_wp2_with fail
        go_at_call 96
        refine (unhide NC).mono ?_
        rintro e V ⟨rfl, v1⟩
        have F1 := hide ((unhide F).trans (v1.mono (unhide F).size))
        clear v1
        go_wp2
        exact ⟨⟨j + 1, nw, by omega, by go_num, by first | rfl | go_num, TS', by omega, F1⟩, by simp [intOf]; omega⟩
      · have TS' := hide (show greatW (l.take (j + 1)) 0 = m by rw [unhide TS]; omega)
        have hc' : ¬ (m : Int) < (nw : Int) := by omega
        have hmx : max (m : Int) (nw : Int) = (m : Int) := by omega
        go_wp2_with fail
        go_at_call 96
        refine (unhide NC).mono ?_
        rintro e V ⟨rfl, v1⟩
        have F1 := hide ((unhide F).trans (v1.mono (unhide F).size))
        clear v1
        go_wp2
        exact ⟨⟨j + 1, m, by omega, by go_num, by first | rfl | go_num, TS', by omega, F1⟩, by simp [intOf]; omega⟩
    · have hjj : ¬ (j : Int) < (n : Int) := by omega
      obtain rfl : j = n := by omega
      have FE := hide (show greatW l 0 = m by have h := unhide HG; rwa [List.take_of_length_le (by rw [unhide HN]; exact Nat.le_refl _)] at h)
      go_wp2
      go_ret
      exact ⟨by rw [unhide FE]; rfl, unhide F⟩
end Go.Proofs.YtijcpmbfhfppmaaGreatDoor
