/- Numbers as texts: strconv.Itoa, strconv.Atoi. -/
import Derived.Test.YtagncghpfdjkmaaGreatDoorB06
import Derived.Test.YtagncghpfdjkmaaGreatDoorB09
import Derived.Test.YtagncghpfdjkmaaGreatDoorRows
import Derived.Lib.LaidTab
import Derived.Lib.LaidU8
import Derived.MakeChecks
import Derived.Test.YtagncghpfdjkmaaGreatDoorB01
import Derived.Test.YtagncghpfdjkmaaGreatDoorB08
import Derived.Laws.BitsAllLaws
import Derived.Laws.Bits128
import Derived.Deep.RegionHeld3
section
namespace Go.Proofs.YtagncghpfdjkmaaGreatDoor
open Go.ChangeShapes Go.WideShapes Go.ChangeAt Go.RowKit Go.Sort
set_option linter.unusedVariables false

/-- What the library's texts of numbers read. -/
structure Tz (w : World) : Prop where
  tab : Lib.TabIs Tryz.prog w "internal/strconv.uint64pow10" .u64 Lib.pow10Tab
  sy : ∃ ev, w.cell? ⟨Tryz.laysC172_ren.g 15, 0, none⟩ = some ev ∧ (ev = .nilIface ∨ ∃ te pe, ev = .iface te pe)
  rg : ∃ ev, w.cell? ⟨Tryz.laysC172_ren.g 16, 0, none⟩ = some ev ∧ (ev = .nilIface ∨ ∃ te pe, ev = .iface te pe)
theorem tab_later {n : String} {g : Nat} {k : IntKind} {zs : List Int} {w w' : World} (hg : Tryz.prog.globalNamed n = some g) (h : Lib.TabIs Tryz.prog w n k zs) (hb : Below w.heap.size w w') : Lib.TabIs Tryz.prog w' n k zs := by
  unfold Lib.TabIs World.var? at h ⊢
  rw [hg] at h ⊢
  simp only [Option.bind_some] at h ⊢
  have hlt : g < w.heap.size := by
    rcases Nat.lt_or_ge g w.heap.size with h' | h'
    · exact h'
    · rw [Array.getElem?_eq_none h'] at h; cases h
  rw [hb.block g hlt]
  exact h
theorem pow_global : ∃ g, Tryz.prog.globalNamed "internal/strconv.uint64pow10" = some g := Option.isSome_iff_exists.1 (show (Tryz.prog.globalNamed "internal/strconv.uint64pow10").isSome = true by kernel_rfl)
theorem Tz.later {w w' : World} (h : Tz w) (hb : Below w.heap.size w w') : Tz w' := by
  obtain ⟨g, hg⟩ := pow_global
  obtain ⟨e1, h1, h2⟩ := h.sy
  obtain ⟨e2, h3, h4⟩ := h.rg
  exact ⟨tab_later hg h.tab hb, ⟨e1, cell_later hb h1, h2⟩, ⟨e2, cell_later hb h3, h4⟩⟩
theorem grow_below {w : World} (k : Nat) (os : Array Obj) : Below w.heap.size w (grow (w.drewN k) os) :=
  ⟨rfl, rfl, rfl, by show w.heap.size ≤ (w.heap ++ os).size; simp, fun i hi => by show (w.heap ++ os)[i]? = _; rw [Array.getElem?_append_left hi]⟩
theorem itoa_calls (n : Nat) (hn : n ≤ 9223372036854775807) (w : World) (hz : Tz w) : Calls Tryz.prog 110 #[.int .i64 (n : Int)] w fun e w' => e = .returned (.string (str (Lib.decDigits n))) ∧ Below w.heap.size w w' := by
  refine (Tryz.strconv_Itoa (n : Int) (by omega) (by omega) w hz.tab).mono ?_
  rintro e w' ⟨rfl, k, os, rfl⟩
  refine ⟨?_, grow_below k os⟩
  have : Lib.itoa (n : Int) = Lib.decDigits n := by
    unfold Lib.itoa
    rw [if_neg (by omega), Int.toNat_natCast]
  rw [this]
  rfl
theorem str_append (a b : Nm) : str a ++ str b = str (a ++ b) := by
  unfold str
  apply ByteArray.ext
  simp
/-- How strconv.Atoi ends. -/
theorem atoi_ok (x : Nm) (hx : x.length ≤ 64) (v : Int) (h : Lib.atoiAll x = .ok v) (w : World) : Calls Tryz.prog 119 #[.string (str x)] w fun e w' => e = .returned (.tuple #[.int .i64 v, .nilIface]) ∧ Below w.heap.size w w' := by
  refine (Tryz.strconv_Atoi_ok (str x) (by rw [str_size]; omega) v h w).mono ?_
  rintro e w' ⟨rfl, rfl | ⟨t, rfl⟩⟩
  · exact ⟨rfl, Below.refl _ _⟩
  · exact ⟨rfl, bytesWorld_below w t⟩
theorem atoi_no (x : Nm) (hx : x.length ≤ 64) (h : ∀ v, Lib.atoiAll x ≠ .ok v) (w : World) (hz : Tz w) : Calls Tryz.prog 119 #[.string (str x)] w fun e w' => ∃ v t a, e = .returned (.tuple #[.int .i64 v, .iface t (.pointer (some a))]) ∧ Below w.heap.size w w' := by
  obtain ⟨e1, h1, h2⟩ := hz.sy
  obtain ⟨e2, h3, h4⟩ := hz.rg
  cases hh : Lib.atoiAll x with
  | ok v => exact absurd hh (h v)
  | «syntax» =>
    refine (Tryz.strconv_Atoi_syntax (str x) (by rw [str_size]; omega) hh e1 w h1 h2).mono ?_
    rintro e w' ⟨N, rfl, _, _, hb⟩
    exact ⟨_, _, _, rfl, hb⟩
  | range =>
    refine (Tryz.strconv_Atoi_range (str x) (by rw [str_size]; omega) hh e2 w h3 h4).mono ?_
    rintro e w' ⟨N, rfl, _, _, hb⟩
    exact ⟨_, _, _, rfl, hb⟩
theorem str_eqN (a b : Nm) : ((str a).toList == (str b).toList) = decide (a = b) := by
  have h1 : ∀ x : Nm, (str x).toList = x := fun x => by rw [ByteArray.toList_eq]; rfl
  rw [h1, h1]
  by_cases h : a = b
  · subst h; simp
  · rw [decide_eq_false h]
    simpa using h
end Go.Proofs.YtagncghpfdjkmaaGreatDoor
end
/- The tables of strconv, as a tied row lays them. -/
section
namespace Go.Proofs.YtagncghpfdjkmaaGreatDoor
open Go.ChangeShapes Go.WideShapes Go.ChangeAt Go.RowKit Go.Lib
set_option linter.unusedVariables false

theorem tabIs_of_reads {P : Program} {W : World} {name : String} {k : IntKind} {zs : List Int} {g : Nat} {t e : TypeId} {n : Nat}
    (hg : P.globalNamed name = some g) (hty : (P.globals[g]?).map (·.type) = some t) (ht : P.underlying t = some (.array n e)) (he : P.underlying e = some (.int k)) (hce : P.cellsOf e = 1) (hct : P.cellsOf t = n)
    (h : VarReads P W name (tabData k zs)) : TabIs P W name k zs := by
  obtain ⟨g', t', cs, fuel, p, hg', ht', hvar, hd⟩ := h
  obtain rfl := Option.some.inj (hg.symm.trans hg')
  obtain rfl := Option.some.inj (hty.symm.trans ht')
  unfold TabIs
  rw [hvar, ← cells_of_tab ht he hce hct hd]
theorem iface_cells {H : Type} {enc : TypeId × Value → H} {P : Program} {w : World} {base : Nat} {sp : Nat → Bool} {held : Bool} {fuel : Nat} {t : TypeId} {ms : _} {cs : List Value} {r : DataW H × List MemPlace}
    (ht : P.underlying t = some (.interface ms)) (h : DataW.trod enc P w base sp held fuel t cs = some r) : cs = [.nilIface] ∨ ∃ u v, cs = [.iface u v] := by
  cases fuel with
  | zero => simp [DataW.trod] at h
  | succ fuel =>
    simp only [DataW.trod, ht] at h
    split at h <;> first | (exact .inl rfl) | (exact .inr ⟨_, _, rfl⟩) | (simp_all) | (cases h)
theorem iface_of_reads {P : Program} {W : World} {name : String} {g : Nat} {t : TypeId} {ms : _} {d : DataW Unit}
    (hg : P.globalNamed name = some g) (hty : (P.globals[g]?).map (·.type) = some t) (ht : P.underlying t = some (.interface ms)) (h : VarReads P W name d) : ∃ ev, W.cell? ⟨g, 0, none⟩ = some ev ∧ (ev = .nilIface ∨ ∃ te pe, ev = .iface te pe) := by
  obtain ⟨g', t', cs, fuel, p, hg', ht', hvar, hd⟩ := h
  obtain rfl := Option.some.inj (hg.symm.trans hg')
  obtain rfl := Option.some.inj (hty.symm.trans ht')
  have h0 := World.var?_cell hg hvar 0
  rcases iface_cells ht hd with e | ⟨u, v, e⟩
  · rw [show cs = #[.nilIface] from Array.toList_inj.1 e] at h0
    exact ⟨_, by simpa using h0, .inl rfl⟩
  · rw [show cs = #[.iface u v] from Array.toList_inj.1 e] at h0
    exact ⟨_, by simpa using h0, .inr ⟨u, v, rfl⟩⟩
noncomputable def powG : Nat := (Tryz.prog.globalNamed "internal/strconv.uint64pow10").getD 0
noncomputable def powT : Nat := ((Tryz.prog.globals[powG]?).map (·.type)).getD 0
noncomputable def powE : Nat := match Tryz.prog.underlying powT with
  | some (.array _ e) => e
  | _ => 0
noncomputable def errT : Nat := ((Tryz.prog.globals[Tryz.laysC172_ren.g 15]?).map (·.type)).getD 0
theorem iface_shape (o : Option TypeDesc) (h : (match o with
    | some (.interface _) => true
    | _ => false) = true) : ∃ ms, o = some (.interface ms) := by
  split at h
  · exact ⟨_, rfl⟩
  · cases h
theorem err_iface : ∃ ms, Tryz.prog.underlying errT = some (.interface ms) := iface_shape _ (by kernel_rfl)
theorem pow_is : (Rows.laid_internal_strconv_uint64pow10 : DataW Unit) = tabData .u64 Lib.pow10Tab := by kernel_rfl
theorem tz_of {W : World} (hL : laidMet Tryz.prog [("math/bits.deBruijn32tab", Rows.laid_math_bits_deBruijn32tab), ("math/bits.deBruijn64tab", Rows.laid_math_bits_deBruijn64tab), ("internal/strconv.uint64pow10", Rows.laid_internal_strconv_uint64pow10), ("strconv.ErrRange", Rows.laid_strconv_ErrRange), ("strconv.ErrSyntax", Rows.laid_strconv_ErrSyntax)] W) : Tz W := by
  have h1 := Lib.laidMet.reads hL (.tail _ (.tail _ (.head _)))
  rw [pow_is] at h1
  have h2 := Lib.laidMet.reads hL (.tail _ (.tail _ (.tail _ (.head _))))
  have h3 := Lib.laidMet.reads hL (.tail _ (.tail _ (.tail _ (.tail _ (.head _)))))
  obtain ⟨ms, hm⟩ := err_iface
  exact ⟨tabIs_of_reads (g := powG) (t := powT) (e := powE) (n := 20) (by kernel_rfl) (by kernel_rfl) (by kernel_rfl) (by kernel_rfl) (by kernel_rfl) (by kernel_rfl) h1,
    iface_of_reads Tryz.laysC172.m15 (by kernel_rfl) hm h3, iface_of_reads (t := errT) Tryz.laysC172.m16 (by kernel_rfl) hm h2⟩
end Go.Proofs.YtagncghpfdjkmaaGreatDoor
end
/- Member: Right, Voter; the document's In, Right, Voter. -/
section
namespace Go.Proofs.YtagncghpfdjkmaaGreatDoor
open Go.ChangeShapes Go.WideShapes Go.ChangeAt Go.RowKit

/-- Members in their room. -/
abbrev mB (va : Option Addr) (vn vc : Nat) (la : Option Addr) (ln lc : Nat) : Obj := .cells #[.slice va vn vc, .slice la ln lc] 26 (0, 0)
abbrev mV (va : Option Addr) (vn vc : Nat) (la : Option Addr) (ln lc : Nat) : Value := .agg #[.slice va vn vc, .slice la ln lc]
theorem enter_right (c : Array Value) (w : World) : (callFunc 127 c).run Tryz.prog w = .ok (.enter 127 c) w := by
  simp [callFunc, go_sem, Tryz.func127]
  rw [if_neg (by decide +kernel), if_neg (fun h => by cases h)]
theorem right_picks {w0 : World} {B : Nat} {va : Option Addr} {vn vc : Nat} {la : Option Addr} {ln lc : Nat} {v : List Int} (hB : w0.heap[B]? = some (mB va vn vc la ln lc)) (hv : IntsAt w0 va v) (hn : v.length = vn) (hx : vn ≤ maxLen) : PickI 127 #[.pointer (some ⟨B, 0, none⟩)] (fun n => decide (n ∈ v)) w0 := by
  refine ⟨enter_right, fun n w _ F => ?_⟩
  have H := hide (hv.later F)
  have HN := hide hn
  have c0 := box_cell (later_block F hB) 0 _ rfl
  clear hB hv hn F
  go_enter Tryz.func127, Tryz.ntmps127
  go_wp2_with fail
  refine (contains_calls (unhide H) n vn (unhide HN) hx).mono ?_
  rintro e w2 ⟨rfl, rfl⟩
  go_wp2
  go_ret
  exact ⟨rfl, Below.refl _ _⟩
section
variable {w : World} {va : Option Addr} {vc : Nat} {v : List Int} {la : Option Addr} {lc : Nat} {l : List Int}
set_option maxRecDepth 20000 in
set_option maxHeartbeats 2000000 in
theorem right_calls (hv : IntsAt w va v) (hl : IntsAt w la l) (vn ln : Nat) (hvn : v.length = vn) (hln : l.length = ln) (hvx : vn ≤ maxLen) (hlx : ln ≤ maxLen) :
    Calls Tryz.prog 95 #[mV va vn vc la ln lc] w fun e w' => e = .returned (.bool (rightM v l)) ∧ Below w.heap.size w w' := by
  have X1 := hide (heap_new w (mB va vn vc la ln lc))
  have b1 := hide (show Below w.heap.size w (w.alloc (mB va vn vc la ln lc)) from (Below.refl _ _).alloc (Nat.le_refl _) _)
  have V := hide (hv.later (unhide b1))
  have L := hide (hl.later (unhide b1))
  have VN := hide hvn
  have LN := hide hln
  have c0 := box_cell (unhide X1) 0 _ rfl
  have c1 := box_cell (unhide X1) 1 _ rfl
  clear hv hl hvn hln
  by_cases h0 : vn = 0
  · subst h0
    have e0 := hide (show rightM v l = false by
      have : v = [] := List.eq_nil_of_length_eq_zero (unhide VN)
      rw [this]; rfl)
    go_enter Tryz.func95, Tryz.ntmps95
    go_wp2
    go_ret
    exact ⟨by rw [unhide e0]; rfl, unhide b1⟩
  · have h0' : ¬ ((vn : Int) = 0) := by omega
    have hne := hide (show v.isEmpty = false by
      cases hv : v with
      | nil => have := unhide VN; rw [hv] at this; exact absurd this.symm h0
      | cons _ _ => rfl)
    go_enter Tryz.func95, Tryz.ntmps95
    go_wp2_with fail
    generalize hD : w.heap.size = D at *
    generalize w.alloc (mB va vn vc la ln lc) = w1 at *
    refine (rises_calls (unhide V) vn (unhide VN) hvx).mono ?_
    rintro e w2 ⟨rfl, rfl⟩
    cases hr : riseFrom 0 v
    · have e0 := hide (show rightM v l = false by simp [rightM, hr])
      go_wp2
      go_ret
      exact ⟨by rw [unhide e0]; rfl, by rw [hD]; exact unhide b1⟩
    · go_wp2_with fail
      refine (rises_calls (unhide L) ln (unhide LN) hlx).mono ?_
      rintro e w3 ⟨rfl, rfl⟩
      cases hr2 : riseFrom 0 l
      · have e0 := hide (show rightM v l = false by simp [rightM, hr2])
        go_wp2
        go_ret
        exact ⟨by rw [unhide e0]; rfl, by rw [hD]; exact unhide b1⟩
      · go_wp2_with fail
        refine (containsFunc_calls (unhide L) ln (unhide LN) hlx (right_picks (unhide X1) (unhide V) (unhide VN) hvx)).mono ?_
        rintro e w4 ⟨rfl, b4⟩
        have e0 := hide (show rightM v l = !(l.any fun n => decide (n ∈ v)) by simp only [rightM, unhide hne, hr, hr2]; rfl)
        have B4 := hide ((unhide b1).trans (b4.mono (by have := (unhide b1).size; omega)))
        clear b4 hr hr2
        generalize (l.any fun n => decide (n ∈ v)) = z at *
        cases z
        all_goals
          go_wp2
          go_ret
          exact ⟨by rw [unhide e0]; rfl, by rw [hD]; exact unhide B4⟩
set_option maxHeartbeats 2000000 in
theorem in_calls (h : IntsAt w la l) (n : Int) (m : Nat) (hm : l.length = m) (hx : m ≤ maxLen) : Calls Tryz.prog 134 #[.slice la m lc, .int .i64 n] w fun e w' => e = .returned (.bool (decide (n ∈ l))) ∧ w' = w := by
  have H := hide h
  have HM := hide hm
  simp only [maxLen] at hx
  clear h hm
  go_enter Tryz.func134, Tryz.ntmps134
  go_wp2_with fail
  go_loopw [5] (fun i wr => ∃ (j : Nat), j ≤ m ∧ i = .int .i64 (j : Int) ∧ Hid (n ∉ l.take j) ∧ Hid (wr = w)) (fun i _ => m - (intOf i).toNat)
  case atStart => exact ⟨0, by omega, rfl, by simp [Hid], rfl⟩
  case round =>
    obtain ⟨j, hj, rfl, hr, hw⟩ := hrel
    have hw' := unhide hw
    subst hw'
    by_cases hjm : j < m
    · have hjl : j < l.length := by rw [unhide HM]; exact hjm
      obtain ⟨b, off, rfl, p0⟩ := (unhide H).cell j hjl
      have hT := hide (List.take_succ_eq_append_getElem hjl)
      have hI := hide (List.getElem_mem hjl)
      generalize l[j] = x at *
      have hj0 : (0 : Int) ≤ (j : Int) := by omega
      have hj1 : (j : Int) < (m : Int) := by omega
      by_cases hin : x = n
      · subst hin
        have R2 := hide (show decide (x ∈ l) = true by simp [unhide hI])
        go_wp2
        go_ret
        exact ⟨by rw [unhide R2]; rfl, rfl⟩
      · have R2 := hide (show n ∉ l.take (j + 1) by rw [unhide hT, List.mem_append, List.mem_singleton]; exact fun h => h.elim (unhide hr) (fun e => hin e.symm))
        go_wp2
        exact ⟨⟨j + 1, by omega, by go_num, unhide R2, by first | exact rfl | exact hide trivial⟩, by simp [intOf]; omega⟩
    · obtain rfl : j = m := by omega
      have R2 := hide (show decide (n ∈ l) = false by
        have := unhide hr
        rw [List.take_of_length_le (by rw [unhide HM]; exact Nat.le_refl _)] at this
        simp [this])
      go_wp2
      go_ret
      exact ⟨by rw [unhide R2]; rfl, rfl⟩
end
end Go.Proofs.YtagncghpfdjkmaaGreatDoor
end
/- Slices of numbers that the call itself makes by append: laws for the walk. -/
section
namespace Go.Proofs.YtagncghpfdjkmaaGreatDoor
open Go.ChangeShapes Go.WideShapes Go.ChangeAt Go.RowKit

theorem info64 : (Tryz.prog.info? 3).map (fun i => (i.zero, i.size, i.bytes)) = some (some (.int .i64 0), 1, 8) := by kernel_rfl
abbrev iV : Int → Value := Value.int .i64
/-- A slice of numbers in memory of the call's own, from block 'base' on. -/
structure OwnI (base : Nat) (w : World) (sp : Option Addr) (c : Nat) (l : List Int) : Prop where
  owns : w.ownsRow base 3 1 (.slice sp l.length c) l.length (l.map iV)
  bd : ∀ n ∈ l, -9223372036854775808 ≤ n ∧ n ≤ 9223372036854775807
theorem OwnI.ints {base : Nat} {w : World} {sp : Option Addr} {c : Nat} {l : List Int} (h : OwnI base w sp c l) : IntsAt w sp l := by
  refine ⟨h.bd, fun i hi => ?_⟩
  rcases h.owns.2 with ⟨hv, h0⟩ | ⟨g, cap, cur, hv, _, hg, _, _, _, ht⟩
  · omega
  · cases hv
    refine ⟨g, 0, rfl, ?_⟩
    rw [cell_of_row w g (0 + i) cur _ _ hg, Nat.zero_add]
    have e : (l.map iV)[i]? = some (iV l[i]) := by
      rw [List.getElem?_map, List.getElem?_eq_getElem hi]; rfl
    rw [← ht, List.getElem?_take, if_pos (by omega)] at e
    rw [← Array.getElem?_toList]
    exact e
theorem OwnI.cap {base : Nat} {w : World} {sp : Option Addr} {c : Nat} {l : List Int} (h : OwnI base w sp c l) : l.length ≤ c ∧ c ≤ maxLen := by
  rcases h.owns.2 with ⟨hv, h0⟩ | ⟨g, cap, cur, hv, _, hg, h1, h2, _, ht⟩
  · simp only [Value.slice.injEq] at hv
    obtain ⟨_, _, rfl⟩ := hv
    exact ⟨by omega, by simp [maxLen]⟩
  · simp only [Value.slice.injEq] at hv
    obtain ⟨_, _, rfl⟩ := hv
    exact ⟨h1, h2⟩
theorem OwnI.nil0 {base : Nat} {w : World} {sp : Option Addr} {c : Nat} {l : List Int} (h : OwnI base w sp c l) : sp = none → c = 0 := by
  rcases h.owns.2 with ⟨hv, h0⟩ | ⟨g, cap, cur, hv, _⟩
  · simp only [Value.slice.injEq] at hv
    exact fun _ => hv.2.2
  · simp only [Value.slice.injEq] at hv
    intro e
    rw [e] at hv
    cases hv.1
theorem OwnI.empty (w : World) (base : Nat) (hb : base ≤ w.heap.size) : OwnI base (w.alloc (.cells #[] 3)) (some ⟨w.heap.size, 0, none⟩) 0 [] :=
  ⟨⟨rfl, .inr ⟨w.heap.size, 0, #[], rfl, hb, heap_new _ _, Nat.le_refl _, by simp [maxLen], rfl, rfl⟩⟩, by simp⟩
theorem OwnI.ofNil (w : World) (base : Nat) : OwnI base w none 0 [] := ⟨w.ownsRow_nil base 3 1, by simp⟩
theorem OwnI.later {base : Nat} {w w' : World} {sp : Option Addr} {c : Nat} {l : List Int} (h : OwnI base w sp c l) (hb : Below w.heap.size w w') : OwnI base w' sp c l := by
  refine ⟨⟨h.owns.1, ?_⟩, h.bd⟩
  rcases h.owns.2 with hv | ⟨g, cap, cur, hv, hbg, hg, r⟩
  · exact .inl hv
  · exact .inr ⟨g, cap, cur, hv, hbg, (hb.block g (Array.getElem?_eq_some_iff.1 hg).1).trans hg, r⟩
theorem OwnI.mono {base base' : Nat} {w : World} {sp : Option Addr} {c : Nat} {l : List Int} (h : OwnI base w sp c l) (hb : base' ≤ base) : OwnI base' w sp c l := by
  refine ⟨⟨h.owns.1, ?_⟩, h.bd⟩
  rcases h.owns.2 with hv | ⟨g, cap, cur, hv, hbg, r⟩
  · exact .inl hv
  · exact .inr ⟨g, cap, cur, hv, by omega, r⟩
theorem OwnI.ofBlock {base g : Nat} {w : World} {l : List Int} (hg : w.heap[g]? = some (.cells (l.map iV).toArray 3 (0, 0))) (hbg : base ≤ g) (hl : ∀ n ∈ l, -9223372036854775808 ≤ n ∧ n ≤ 9223372036854775807) (hm : l.length ≤ maxLen) : OwnI base w (some ⟨g, 0, none⟩) l.length l :=
  ⟨⟨by simp, .inr ⟨g, l.length, (l.map iV).toArray, rfl, hbg, hg, Nat.le_refl _, hm, by simp, by rw [Nat.mul_one]; exact List.take_of_length_le (by simp)⟩⟩, hl⟩
theorem OwnI.kept {base : Nat} {w w' : World} {sp : Option Addr} {c : Nat} {l : List Int} {row : Option Nat} (h : OwnI base w sp c l) (hg : w.grownBy w' row) (hne : ∀ g, blk sp = some g → row ≠ some g) : OwnI base w' sp c l := by
  refine ⟨⟨h.owns.1, ?_⟩, h.bd⟩
  rcases h.owns.2 with hv | ⟨g, cap, cur, hv, hbg, hgg, r⟩
  · exact .inl hv
  · refine .inr ⟨g, cap, cur, hv, hbg, (hg.block g (Array.getElem?_eq_some_iff.1 hgg).1 (fun e => hne g ?_ e.symm)).trans hgg, r⟩
    simp only [Value.slice.injEq] at hv
    rw [hv.1]
    rfl
theorem OwnI.blk_lt {base : Nat} {w : World} {sp : Option Addr} {c : Nat} {l : List Int} (h : OwnI base w sp c l) : ∀ g, blk sp = some g → base ≤ g ∧ g < w.heap.size := by
  intro g hg
  have := h.owns.lt g (by rw [ownBlock_slice]; exact hg)
  exact this
theorem IntsAt.kept {w w' : World} {a : Option Addr} {l : List Int} {row : Option Nat} (h : IntsAt w a l) (hg : w.grownBy w' row) (hne : ∀ b off, a = some ⟨b, off, none⟩ → row ≠ some b) : IntsAt w' a l :=
  ⟨h.bd, fun i hi => by
    obtain ⟨b, off, e, hc⟩ := h.cell i hi
    refine ⟨b, off, e, ?_⟩
    have hlt : b < w.heap.size := by
      rcases Nat.lt_or_ge b w.heap.size with h1 | h1
      · exact h1
      · have : w.heap[b]? = none := Array.getElem?_eq_none h1
        simp [World.cell?, this] at hc
    have e2 := hg.block b hlt (fun e' => hne b off e e'.symm)
    simp only [World.cell?, e2] at hc ⊢
    exact hc⟩
theorem IntsAt.take {w : World} {a : Option Addr} {l : List Int} (h : IntsAt w a l) (k : Nat) : IntsAt w a (l.take k) :=
  ⟨fun n hn => h.bd n (List.mem_of_mem_take hn), fun i hi => by
    rw [List.length_take] at hi
    obtain ⟨b, off, e, hc⟩ := h.cell i (by omega)
    exact ⟨b, off, e, by rw [List.getElem_take]; exact hc⟩⟩
theorem cells_of_intsAt {w : World} {a : Option Addr} {l : List Int} (hb : IntsAt w a l) (h : 0 < (l.map iV).length) : ∃ ad, a = some ad ∧ ∀ j v, (l.map iV)[j]? = some v → w.cell? (ad.add j) = some v := by
  rw [List.length_map] at h
  obtain ⟨b, off, rfl, _⟩ := hb.cell 0 h
  refine ⟨_, rfl, fun j v hv => ?_⟩
  have hj : j < l.length := by
    rcases Nat.lt_or_ge j l.length with h1 | h1
    · exact h1
    · rw [List.getElem?_eq_none (by rw [List.length_map]; exact h1)] at hv; cases hv
  obtain ⟨b', off', e, hc⟩ := hb.cell j hj
  cases e
  rw [List.getElem?_map, List.getElem?_eq_getElem hj] at hv
  cases hv
  rw [Addr.add_lit]
  exact hc
theorem oneCell_ints (l : List Int) : ∀ v ∈ l.map iV, v.oneCell' = true := by
  intro v hv
  obtain ⟨x, _, rfl⟩ := List.mem_map.1 hv
  rfl
/-- What an append of numbers leaves. -/
theorem run_appendI {w : World} (base : Nat) (sp : Option Addr) (c : Nat) (l : List Int) (hown : OwnI base w sp c l) (xp : Option Addr) (m xc : Nat) (k : List Int) (hk : k.length = m) (hB : IntsAt w xp k) (hx0 : xp = none → xc = 0)
    (hsz : (l.length + m) * 8 ≤ 140737488355328) (hbase : base ≤ w.heap.size) (ty : TypeId) :
    ∃ sp' c' w', (Builtin.append_ #[24, 24] ty #[.slice sp l.length c, .slice xp m xc]).run Tryz.prog w = .ok (.slice sp' (l ++ k).length c') w' ∧ OwnI base w' sp' c' (l ++ k) ∧ w.grownBy w' (blk sp) ∧ ∀ g, blk sp' = some g → blk sp = some g ∨ w.heap.size ≤ g := by
  subst hk
  obtain ⟨i0, hi, hz0, hz1, hz2⟩ := info_parts info64
  have hbd : ∀ n ∈ l ++ k, -9223372036854775808 ≤ n ∧ n ≤ 9223372036854775807 := fun c hc => (List.mem_append.1 hc).elim (hown.bd c) (hB.bd c)
  cases xp with
  | none =>
    have hk0 : k = [] := by
      cases k with
      | nil => rfl
      | cons x r => obtain ⟨b, off, h, _⟩ := hB.cell 0 (by simp); cases h
    subst hk0
    rw [hx0 rfl]
    have hrun := run_append_owned_none (P := Tryz.prog) (w := w) base 24 ty 3 i0 1 Tryz.underlying24 hi _ _ _ hown.owns
    refine ⟨sp, c, w, ?_, ?_, ⟨rfl, rfl, rfl, Nat.le_refl _, fun _ _ _ => rfl⟩, fun g hg => .inl hg⟩
    · rw [List.append_nil]; exact hrun
    · rw [List.append_nil]; exact hown
  | some x =>
    obtain ⟨v', w', hrun, h1, h2, _, h5⟩ := run_append_own_at (P := Tryz.prog) w base 24 ty 3 i0 (.int .i64 0) 1 8 Tryz.underlying24 hi hz0 hz1 hz2 rfl (by omega) _ _ _ hown.owns x k.length xc (k.map iV) (by simp)
      (fun j u hu => by
        have h0 : 0 < (k.map iV).length := by
          rcases Nat.eq_zero_or_pos (k.map iV).length with h | h
          · rw [List.getElem?_eq_none (by omega)] at hu; cases hu
          · exact h
        obtain ⟨ad, had, hc⟩ := cells_of_intsAt hB h0
        cases had
        exact hc j u hu) (oneCell_ints k) (by simp only [maxLen]; omega) (by omega) hbase
    rw [← List.map_append, ← List.length_append] at h1
    have hv : ∃ sp' c', v' = .slice sp' (l ++ k).length c' := by
      rcases h1.2 with ⟨hv, h0⟩ | ⟨g, cap, cur, hv, _⟩
      · exact ⟨none, 0, by rw [hv, h0]⟩
      · exact ⟨_, _, hv⟩
    obtain ⟨sp', c', rfl⟩ := hv
    rw [ownBlock_slice, ownBlock_slice] at h5
    rw [ownBlock_slice] at h2
    refine ⟨sp', c', w', hrun, ⟨h1, hbd⟩, h2, fun g hg => ?_⟩
    rcases h5 with h5 | h5
    · exact .inl (h5.symm.trans hg)
    · rw [h5] at hg
      exact .inr (Nat.le_of_eq (Option.some.inj hg))
theorem wpList_appendI {w : World} {ops : Array Oper} {rest : List Oper} {o : Oper} {a : Act} {Q : Exit → Act → World → Prop} (hgd : o.guard = none) (s x : Operand)
    (ho : o.op = .call { callee := .builtin .append, args := #[s, x], argTypes := #[24, 24] })
    (base : Nat) (sp : Option Addr) (n c : Nat) (l : List Int) (hs : a.eval s = .slice sp n c) (hn : l.length = n) (hown : OwnI base w sp c l)
    (xp : Option Addr) (m xc : Nat) (hx : a.eval x = .slice xp m xc) (k : List Int) (hk : k.length = m) (hB : IntsAt w xp k) (hx0 : xp = none → xc = 0)
    (hsz : (l.length + m) * 8 ≤ 140737488355328) (hbase : base ≤ w.heap.size)
    (h : ∀ sp' n' c' w', Hid ((l ++ k).length = n') → OwnI base w' sp' c' (l ++ k) → Grew w sp w' sp' → wpList Tryz.prog ops Q rest (a.put o.dst (.slice sp' n' c')) w') :
    wpList Tryz.prog ops Q (o :: rest) a w := by
  subst hn
  refine wpList_plain hgd fun K hK => ?_
  obtain ⟨sp', c', w', hrun, h1, h2, h3⟩ := run_appendI (w := w) base sp c l hown xp m xc k hk hB hx0 hsz hbase o.type
  unfold Oper.wp
  simp [execOp, ho, resolve, invoke, builtin, hs, hx, hrun, Result.andThen]
  have := hK _ _ (h sp' (l ++ k).length c' w' rfl h1 ⟨h2, h3⟩)
  rw [List.length_append] at this
  exact this
theorem GrewI.below {base : Nat} {w w' : World} {sp sp' : Option Addr} {c : Nat} {l : List Int} (h : Grew w sp w' sp') (ho : OwnI base w sp c l) (hb : base ≤ w.heap.size) : Below base w w' :=
  (Below.refl base w).grown h.grown hb (fun j hj => (ho.blk_lt j hj).1)
/-- One number in a new block. -/
theorem ints_one {w : World} {g : Nat} {n : Int} {T : TypeId} {fr : Nat × Nat} (h : w.heap[g]? = some (.cells #[.int .i64 n] T fr)) (hn : -9223372036854775808 ≤ n ∧ n ≤ 9223372036854775807) : IntsAt w (some ⟨g, 0, none⟩) [n] :=
  ⟨by simpa using hn, fun i hi => by
    have : i = 0 := by simpa using hi
    subst this
    exact ⟨g, 0, rfl, by rw [cell_of_row _ _ _ _ _ _ h]; rfl⟩⟩
end Go.Proofs.YtagncghpfdjkmaaGreatDoor
end
/- Plain: a number as bytes, seven bits a byte, the lowest first. -/
section
namespace Go.Proofs.YtagncghpfdjkmaaGreatDoor

def numBf : Nat → Nat → List Nat
  | 0, n => [n]
  | f + 1, n => if n < 128 then [n] else (n % 128 + 128) :: numBf f (n / 128)
theorem numBf_same : ∀ (n f g : Nat), n ≤ f → n ≤ g → numBf f n = numBf g n := by
  intro n
  induction n using Nat.strongRecOn with
  | ind n ih =>
    intro f g hf hg
    by_cases h : n < 128
    · cases f <;> cases g <;> simp only [numBf, if_pos h]
    · match f, g, hf, hg with
      | 0, _, hf, _ => omega
      | _ + 1, 0, _, hg => omega
      | f + 1, g + 1, hf, hg =>
        simp only [numBf, if_neg h]
        rw [ih (n / 128) (by omega) f g (by omega) (by omega)]
/-- A number's bytes. -/
def numB (n : Nat) : List Nat := numBf n n
theorem numB_small {n : Nat} (h : n < 128) : numB n = [n] := by
  unfold numB
  cases n with
  | zero => rfl
  | succ k => simp only [numBf, if_pos h]
theorem numB_great {n : Nat} (h : ¬ n < 128) : numB n = (n % 128 + 128) :: numB (n / 128) := by
  unfold numB
  cases n with
  | zero => omega
  | succ k =>
    simp only [numBf, if_neg h]
    rw [numBf_same ((k + 1) / 128) k ((k + 1) / 128) (by omega) (Nat.le_refl _)]
theorem numB_length (n : Nat) : 1 ≤ (numB n).length ∧ (numB n).length ≤ n + 1 := by
  induction n using Nat.strongRecOn with
  | ind n ih =>
    by_cases h : n < 128
    · rw [numB_small h]; simp
    · rw [numB_great h]
      have := ih (n / 128) (by omega)
      simp only [List.length_cons]
      omega
end Go.Proofs.YtagncghpfdjkmaaGreatDoor
end
/- The contracts of wire.within, addNumber and Number. -/
section
namespace Go.Proofs.YtagncghpfdjkmaaGreatDoor
open Go.ChangeShapes Go.WideShapes Go.ChangeAt Go.RowKit

theorem within_yes (n a b : Int) (w : World) (h : a ≤ n ∧ n ≤ b) : Calls Tryz.prog 130 #[.int .i64 n, .int .i64 a, .int .i64 b] w fun e w' => e = .returned (.bool true) ∧ w' = w := by
  obtain ⟨h1, h2⟩ := h
  go_enter Tryz.func130, Tryz.ntmps130
  go_wp2
  go_ret
  exact ⟨by simp, rfl⟩
theorem wraps63 (n : Int) (h₀ : 0 ≤ n) (h₁ : n < 2 ^ 63) : IntKind.i64.wrap n = n := by rw [IntKind.wrap_i64]; omega
theorem low_byte (m : Nat) : bits .or .i64 (bits .and .i64 (m : Int) 127) 128 % 256 = ((m % 128 + 128 : Nat) : Int) := by
  rw [i64_and127]
  have h0 : (0 : Int) ≤ (m : Int) % 128 := by omega
  have h1 : (m : Int) % 128 < 128 := by omega
  generalize hy : (m : Int) % 128 = y at *
  have hc : bits .or .i64 y 128 = bits .or .i64 128 y := by simp only [bits, BitVec.or_comm]
  rw [hc, bits_join .i64 63 (by decide) wraps63 7 128 y (by decide) (by decide) (by decide) h0 h1 (by omega)]
  omega

set_option maxRecDepth 20000 in
set_option maxHeartbeats 1000000 in
theorem addNumber_grew (base : Nat) (sp : Option Addr) (n0 c : Nat) (l : List Nat) (n : Nat) (w : World) (hn0 : l.length = n0) (hown : OwnB base w sp c l) (hl : l.length ≤ 1099511627776) (hn : n ≤ 1099511627776) (hbase : base ≤ w.heap.size) :
    Calls Tryz.prog 131 #[.slice sp n0 c, .int .i64 (n : Int)] w fun e w' => ∃ sp' n' c', e = .returned (.slice sp' n' c') ∧ Hid ((l ++ numB n).length = n') ∧ OwnB base w' sp' c' (l ++ numB n) ∧ Grew w sp w' sp' := by
  have HO := hide hown
  have HN := hide hn0
  have HLen := hide (show (l ++ numB n).length ≤ 2199023255553 by rw [List.length_append]; have := (numB_length n).2; omega)
  clear hown hn0
  go_enter Tryz.func131, Tryz.ntmps131
  go_wp2
  go_loopw [0, 1] (fun v i wr => ∃ (sp' : Option Addr) (n' c' : Nat) (l' : List Nat) (m : Nat), m ≤ 1099511627776 ∧ v = .slice sp' n' c' ∧ i = .int .i64 (m : Int) ∧ Hid (l'.length = n') ∧ Hid (OwnB base wr sp' c' l') ∧ Hid (l' ++ numB m = l ++ numB n) ∧ Hid (Grew w sp wr sp')) (fun _ i _ => (intOf i).toNat)
  case atStart => exact ⟨sp, n0, c, l, n, hn, rfl, rfl, unhide HN, unhide HO, rfl, Grew.refl _ _⟩
  case round =>
    obtain ⟨sp', n', c', l', m, hm, rfl, rfl, hl', ho', heq, hbw⟩ := hrel
    have hlen' := hide (show l'.length + 1 ≤ 140737488355328 by
      have h1 := unhide HLen
      rw [← unhide heq, List.length_append] at h1
      have := (numB_length m).1
      omega)
    have hbr : base ≤ wr.heap.size := Nat.le_trans hbase (unhide hbw).grown.size
    by_cases h128 : m < 128
    · have hlit := hide (bytesAt_block (l := [m]) (heap_new wr (.cells #[.int .u8 (m : Int)] 5)) (by intro c hc; simp only [List.mem_cons, List.not_mem_nil, or_false] at hc; omega))
      have bA := hide (show Below wr.heap.size wr (wr.alloc (.cells #[.int .u8 (m : Int)] 5)) from (Below.refl _ _).alloc (Nat.le_refl _) _)
      have heq' := hide (show l' ++ [m] = l ++ numB n by rw [← unhide heq, numB_small h128])
      have hm0 : (m : Int) < 128 := by omega
      go_wp2_with (at_builtin; refine wpList_append8L rfl (.tmp 16) (.tmp 19) rfl base sp' n' c' l' rfl (unhide hl') (by exact (unhide ho').later (unhide bA)) (some ⟨wr.heap.size, 0, none⟩) 1 1 rfl [m] rfl (by exact unhide hlit) (fun h => by cases h) (unhide hlen') (Nat.le_trans hbr (unhide bA).size) ?_; intro sp2 n2 c2 W2 hn2 ho2 hg2 hb2)
      rw [unhide heq'] at hn2 ho2
      go_ret
      exact ⟨sp2, n2, c2, rfl, hn2, ho2, (unhide hbw).trans (Grew.aside (unhide bA) ⟨hg2, hb2⟩)⟩
    · have hlit := hide (bytesAt_block (l := [m % 128 + 128]) (heap_new wr (.cells #[.int .u8 ((m % 128 + 128 : Nat) : Int)] 5)) (by intro c hc; simp only [List.mem_cons, List.not_mem_nil, or_false] at hc; omega))
      have bA := hide (show Below wr.heap.size wr (wr.alloc (.cells #[.int .u8 ((m % 128 + 128 : Nat) : Int)] 5)) from (Below.refl _ _).alloc (Nat.le_refl _) _)
      have heq' := hide (show l' ++ [m % 128 + 128] ++ numB (m / 128) = l ++ numB n by rw [← unhide heq, numB_great h128, List.append_assoc]; rfl)
      have hm0 : ¬ (m : Int) < 128 := by omega
      have hlow := low_byte m
      generalize hq : m % 128 + 128 = q at *
      go_wp2_with (at_builtin; refine wpList_append8L rfl (.tmp 7) (.tmp 12) rfl base sp' n' c' l' rfl (unhide hl') (by exact (unhide ho').later (unhide bA)) (some ⟨wr.heap.size, 0, none⟩) 1 1 rfl [q] rfl (by exact unhide hlit) (fun h => by cases h) (unhide hlen') (Nat.le_trans hbr (unhide bA).size) ?_; intro sp2 n2 c2 W2 hn2 ho2 hg2 hb2)
      have hbn := (unhide hbw).trans (Grew.aside (unhide bA) ⟨hg2, hb2⟩)
      exact ⟨⟨sp2, n2, c2, l' ++ [q], m / 128, by omega, rfl, by go_num, hn2, ho2, unhide heq', hbn⟩, by simp [intOf]; omega⟩
theorem addNumber_calls (base : Nat) (sp : Option Addr) (n0 c : Nat) (l : List Nat) (n : Nat) (w : World) (hn0 : l.length = n0) (hown : OwnB base w sp c l) (hl : l.length ≤ 1099511627776) (hn : n ≤ 1099511627776) (hbase : base ≤ w.heap.size) :
    Calls Tryz.prog 131 #[.slice sp n0 c, .int .i64 (n : Int)] w fun e w' => ∃ sp' n' c', e = .returned (.slice sp' n' c') ∧ Hid ((l ++ numB n).length = n') ∧ OwnB base w' sp' c' (l ++ numB n) ∧ Below base w w' := by
  refine (addNumber_grew base sp n0 c l n w hn0 hown hl hn hbase).mono ?_
  rintro e w' ⟨sp', n', c', he, h1, h2, h3⟩
  exact ⟨sp', n', c', he, h1, h2, h3.below hown hbase⟩
end Go.Proofs.YtagncghpfdjkmaaGreatDoor
end
/- The contract of wire.Number. -/
section
namespace Go.Proofs.YtagncghpfdjkmaaGreatDoor
open Go.ChangeShapes Go.WideShapes Go.ChangeAt Go.RowKit

theorem number_yes (n : Nat) (w : World) (h : n ≤ 1099511627776) :
    Calls Tryz.prog 97 #[.int .i64 (n : Int)] w fun e w' => ∃ sp n' c', e = .returned (.tuple #[.slice sp n' c', .int .i64 0]) ∧ Hid ((numB n).length = n') ∧ OwnB w.heap.size w' sp c' (numB n) ∧ Below w.heap.size w w' := by
  go_enter Tryz.func97, Tryz.ntmps97
  go_wp2_with fail
  refine (within_yes n 0 1099511627776 _ ⟨by omega, by omega⟩).mono ?_
  rintro e w1 ⟨rfl, rfl⟩
  go_wp2_with fail
  refine (addNumber_calls w1.heap.size none 0 0 [] n _ rfl (OwnB.ofNil _ _) (by simp) h (Nat.le_refl _)).mono ?_
  rintro e w' ⟨sp, n', c', rfl, hn, ho, hb⟩
  rw [List.nil_append] at hn ho
  go_wp2
  go_ret2
  exact ⟨sp, n', c', rfl, hn, ho, hb⟩
end Go.Proofs.YtagncghpfdjkmaaGreatDoor
end
