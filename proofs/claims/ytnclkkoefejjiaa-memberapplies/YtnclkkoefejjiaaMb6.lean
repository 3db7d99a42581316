/- Member: Agreed. -/
import Derived.Test.YtnclkkoefejjiaaMb5
import Derived.Maps.OwnIn
namespace Go.Proofs.Ytnclkkoefejjiaa
open Go.ChangeShapes Go.WideShapes Go.ChangeAt Go.RowKit Go.Maps Go.Shelf

attribute [local go_sem] Oper.semAt_some
/-- Which index a node has reached: its first place, 0 at least. -/
def reachM (es : List (Int × Int)) (n : Int) : Int := match es.find? (fun e => decide (e.1 = n)) with
  | some e => max e.2 0
  | none => 0
def stepA (v : List Int) (f : Int → Int) (e : Int × Int) : Int → Int := if e.1 ∈ v then upd f e.1 (max e.2 0) else f
def tallied (v : List Int) (es : List (Int × Int)) : Int → Int := es.foldl (stepA v) (fun _ => 0)
theorem tallied_snoc (v : List Int) (es : List (Int × Int)) (e : Int × Int) : tallied v (es ++ [e]) = stepA v (tallied v es) e := by simp [tallied]
theorem tallied_rev (v : List Int) {n : Int} (hn : n ∈ v) : ∀ es : List (Int × Int), tallied v es.reverse n = reachM es n
  | [] => rfl
  | e :: r => by
    rw [List.reverse_cons, tallied_snoc]
    by_cases h : e.1 = n
    · simp [stepA, upd, reachM, h, hn]
    · have ih := tallied_rev v hn r
      have h' : n ≠ e.1 := fun x => h x.symm
      have : reachM (e :: r) n = reachM r n := by simp [reachM, h]
      rw [this, ← ih]
      unfold stepA
      split
      · simp [upd, h']
      · rfl
def countGe (v : List Int) (f : Int → Int) (x : Int) : Nat := (v.filter fun n => decide (x ≤ f n)).length
/-- The greatest of what voters have that more than half have. -/
structure AgreedIs (v : List Int) (f : Int → Int) (r : Int) : Prop where
  pos : 0 ≤ r
  from_ : r = 0 ∨ ∃ n ∈ v, f n = r ∧ v.length / 2 < countGe v f r
  top : ∀ n ∈ v, v.length / 2 < countGe v f (f n) → f n ≤ r
theorem AgreedIs.unique {v : List Int} {f : Int → Int} {r s : Int} (h : AgreedIs v f r) (k : AgreedIs v f s) : r = s := by
  have h1 : r ≤ s := by
    rcases h.from_ with e | ⟨n, hn, rfl, hc⟩
    · rw [e]; exact k.pos
    · exact k.top n hn hc
  have h2 : s ≤ r := by
    rcases k.from_ with e | ⟨n, hn, rfl, hc⟩
    · rw [e]; exact h.pos
    · exact h.top n hn hc
  omega
theorem countGe_congr {v : List Int} {f g : Int → Int} (h : ∀ n ∈ v, f n = g n) (x : Int) : countGe v f x = countGe v g x := by
  unfold countGe
  congr 1
  refine List.filter_congr (fun n hn => ?_)
  rw [h n hn]
theorem AgreedIs.congr {v : List Int} {f g : Int → Int} {r : Int} (h : AgreedIs v f r) (e : ∀ n ∈ v, f n = g n) : AgreedIs v g r := by
  refine ⟨h.pos, ?_, fun n hn hc => ?_⟩
  · rcases h.from_ with e' | ⟨n, hn, h1, h2⟩
    · exact .inl e'
    · exact .inr ⟨n, hn, (e n hn).symm.trans h1, by rw [← countGe_congr e]; exact h2⟩
  · rw [← e n hn] at hc ⊢
    rw [← countGe_congr e] at hc
    exact h.top n hn hc
def bestOf (v : List Int) (f : Int → Int) : List Int → Int → Int
  | [], b => b
  | n :: r, b => bestOf v f r (if b < f n ∧ v.length / 2 < countGe v f (f n) then f n else b)
theorem bestOf_is (v : List Int) (f : Int → Int) : ∀ (todo : List Int) (b : Int), 0 ≤ b → (∀ n ∈ todo, n ∈ v) → (b = 0 ∨ ∃ n ∈ v, f n = b ∧ v.length / 2 < countGe v f b) → (∀ n ∈ v, n ∉ todo → v.length / 2 < countGe v f (f n) → f n ≤ b) → AgreedIs v f (bestOf v f todo b)
  | [], b, h0, _, h1, h2 => ⟨h0, h1, fun n hn hc => h2 n hn (by simp) hc⟩
  | n :: r, b, h0, ht, h1, h2 => by
    refine bestOf_is v f r _ ?_ (fun x hx => ht x (List.mem_cons_of_mem _ hx)) ?_ ?_
    · split <;> omega
    · split
      · rename_i hh
        exact .inr ⟨n, ht n List.mem_cons_self, rfl, hh.2⟩
      · exact h1
    · intro x hx hxr hc
      by_cases e : x = n
      · subst e
        split
        · exact Int.le_refl _
        · rename_i hh
          have : ¬ b < f x := fun hb => hh ⟨hb, hc⟩
          omega
      · have := h2 x hx (by simp [e, hxr]) hc
        split <;> omega
def agreedM (v l : List Int) (es : List (Int × Int)) : Int := if rightM v l then bestOf v (reachM es) v 0 else 0
theorem agreed_is {v l : List Int} {es : List (Int × Int)} (hr : rightM v l = true) : AgreedIs v (reachM es) (agreedM v l es) := by
  rw [agreedM, if_pos hr]
  exact bestOf_is v _ v 0 (by omega) (fun _ h => h) (.inl rfl) (fun n h1 h2 => absurd h1 h2)
theorem max64 {x : Int} (h : In64 x) : In64 (max x 0) := by
  unfold In64 at *
  omega
theorem tallied_bd (v : List Int) : ∀ (es : List (Int × Int)), (∀ e ∈ es, In64 e.1 ∧ In64 e.2) → ∀ n, In64 (tallied v es n) := by
  intro es
  have gen : ∀ (es : List (Int × Int)) (f : Int → Int), (∀ n, In64 (f n)) → (∀ e ∈ es, In64 e.1 ∧ In64 e.2) → ∀ n, In64 (es.foldl (stepA v) f n) := by
    intro es
    induction es with
    | nil => exact fun f hf _ => hf
    | cons e r ih =>
      intro f hf he
      refine ih _ (fun n => ?_) (fun x hx => he x (List.mem_cons_of_mem _ hx))
      unfold stepA
      split
      · unfold upd
        split
        · exact max64 (he e List.mem_cons_self).2
        · exact hf n
      · exact hf n
  exact gen es _ (fun _ => by constructor <;> decide)
theorem enter_agreed (c : Array Value) (w : World) : (callFunc 52 c).run Try.prog w = .ok (.enter 52 c) w := by
  simp [callFunc, go_sem, Try.func52]
  rw [if_neg (by decide +kernel), if_neg (fun h => by cases h)]
theorem agreed_picks {w0 : World} {B : Nat} {x : Int} (hB : w0.heap[B]? = some (.cells #[.int .i64 x] 3 (0, 0))) : PickI 52 #[.pointer (some ⟨B, 0, none⟩)] (fun t => decide (x ≤ t)) w0 := by
  refine ⟨enter_agreed, fun n w _ F => ?_⟩
  have c0 := box_cell (later_block F hB) 0 _ rfl
  clear hB F
  go_enter Try.func52, Try.ntmps52
  go_wp2
  go_ret
  exact ⟨rfl, Below.refl _ _⟩
section
variable {w : World} {va : Option Addr} {vc : Nat} {v : List Int} {la : Option Addr} {lc : Nat} {l : List Int} {ea : Option Addr} {ec : Nat} {es : List (Int × Int)}
set_option maxRecDepth 20000 in
set_option maxHeartbeats 4000000 in
theorem agreed_calls (hv : IntsAt w va v) (hl : IntsAt w la l) (he : AtsAt w ea es) (vn ln en : Nat) (hvn : v.length = vn) (hln : l.length = ln) (hen : es.length = en) (hvx : vn ≤ maxLen) (hlx : ln ≤ maxLen) (hex : en ≤ maxLen) :
    Calls Try.prog 28 #[mV va vn vc la ln lc, .slice ea en ec] w fun e w' => e = .returned (.int .i64 (agreedM v l es)) ∧ Below w.heap.size w w' := by
  have X1 := hide (heap_new w (mB va vn vc la ln lc))
  have b1 := hide (show Below w.heap.size w (w.alloc (mB va vn vc la ln lc)) from (Below.refl _ _).alloc (Nat.le_refl _) _)
  have V := hide (hv.later (unhide b1))
  have L := hide (hl.later (unhide b1))
  have E0 := hide he
  have VN := hide hvn
  have LN := hide hln
  have EN := hide hen
  have c0 := box_cell (unhide X1) 0 _ rfl
  have c1 := box_cell (unhide X1) 1 _ rfl
  clear hv hl he hvn hln hen
  refine callsIn_wide.1 (callsIn_of_wp_marks (n := 5) Try.func28 rfl trivial (wpIn_wide.2 ?_) rfl)
  simp only [Try.ntmps28, List.size_toArray, List.length_cons, List.length_nil, Nat.reduceAdd, Nat.reduceSub, Array.replicate_succ, Array.replicate_zero, List.push_toArray, List.append_toArray, List.nil_append, List.cons_append]
  go_wp2_with fail
  generalize hD : w.heap.size = D at *
  generalize w.alloc (mB va vn vc la ln lc) = w1 at *
  refine (right_calls (unhide V) (unhide L) vn ln (unhide VN) (unhide LN) hvx hlx).mono ?_
  rintro e w2 ⟨rfl, b2⟩
  have V2 := hide ((unhide V).later b2)
  have X2 := hide (later_block b2 (unhide X1))
  have B2 := hide ((unhide b1).trans (b2.mono (by have := (unhide b1).size; omega)))
  clear b2 c0 c1 X1 V L
  have c0 := box_cell (unhide X2) 0 _ rfl
  have c1 := box_cell (unhide X2) 1 _ rfl
  cases hr : rightM v l
  · go_wp2
    exact ⟨_, results_tmp rfl _ _ _, by simp [agreedM, hr], by rw [hD]; exact unhide B2⟩
  · obtain ⟨hr1, hr2, hv9, hl9, hv0⟩ := right_parts hr
    have ND := hide (rise_nodup v 0 (by omega) hr1)
    have IN := hide (rise_in v 0 (by omega) hr1)
    have hvn9 : vn ≤ 9 := by rw [← unhide VN]; exact hv9
    go_wp2_with fail
    refine (tally_calls (unhide V2) vn (unhide VN) (by omega) (unhide ND)).mono ?_
    rintro e w3 ⟨B, rfl, t3, hB3, b3⟩
    have T3 := hide t3
    have B3 := hide ((unhide B2).trans (b3.mono (by have := (unhide B2).size; omega)))
    have hBD := hide (show D ≤ B by have := (unhide B2).size; omega)
    clear t3 hB3 b3
    go_wp2_with fail
    refine (backward_calls ea en ec _).mono ?_
    rintro e w4 ⟨rfl, rfl⟩
    go_wp2_with fail
    have h3s : B < w3.heap.size := (unhide T3).lt
    have Z4 : ((w3.alloc (.cells #[.map (some B)] 68)).alloc (.cells #[.slice ea en ec] 33)).heap.size = w3.heap.size + 2 := by simp
    have b4 := hide (show Below w3.heap.size w3 ((w3.alloc (.cells #[.map (some B)] 68)).alloc (.cells #[.slice ea en ec] 33)) from ((Below.refl _ w3).alloc (Nat.le_refl _) _).alloc (by simp) _)
    have T4 := hide ((unhide T3).later (unhide b4))
    have B4 := hide ((unhide B3).trans ((unhide b4).mono (by have := (unhide B3).size; omega)))
    have R4 := hide (heap_old (.cells #[.slice ea en ec] 33) (heap_new w3 (.cells #[.map (some B)] 68)))
    have S4 := hide (show ((w3.alloc (.cells #[.map (some B)] 68)).alloc (.cells #[.slice ea en ec] 33)).heap[w3.heap.size + 1]? = some (.cells #[.slice ea en ec] 33) by
      have := heap_new (w3.alloc (.cells #[.map (some B)] 68)) (.cells #[.slice ea en ec] 33)
      rwa [World.size_alloc] at this)
    have E4 := hide ((unhide E0).later (by rw [hD]; exact unhide B4))
    have L4 := hide (fun h0 => (unhide E4).lt h0)
    have hD3 := hide (show D ≤ w3.heap.size from by have := (unhide B3).size; omega)
    generalize (w3.alloc (.cells #[.map (some B)] 68)).alloc (.cells #[.slice ea en ec] 33) = w4 at *
    generalize w3.heap.size = H3 at *
    clear T3 b4
    refine (wpIn_wide (n := 5)).1 ?_
    refine wpIn_rangeFunc_ownH rfl (by omega) (gf := 68) (lb := #[.pointer (some ⟨H3 + 1, 0, none⟩)]) rfl trivial (enters_of Try.func68 (by kernel_rfl) rfl)
      (back_stops 4 (by omega) (H3 + 1) w4.heap.size ec ea es en (unhide EN) hex w4 (box_cell (unhide S4) 0 _ rfl) (by omega) (by omega) (unhide E4) (unhide L4)) (fun h k => h.trans k) (fun W l o o' h1 h2 _ _ => KC.put W l o o' h1 h2) (Below.refl _ _) (fun _ => rfl)
      (fun pre W => TallyAt W B vn v (tallied v (placesOf pre)) ∧ W.heap[H3]? = some (.cells #[.map (some B)] 68 (0, 0)) ∧ Below D w W ∧ w4.heap.size ≤ W.heap.size) (fun _ _ _ => False) ?hI (fun _ _ _ _ _ hs _ _ => hs) ⟨(unhide T4).congr (fun _ _ => rfl), unhide R4, unhide B4, Nat.le_refl _⟩
      (fun x a' W => ∃ Bx, w4.heap.size ≤ Bx ∧ W.heap[Bx]? = some (.cells #[.int .i64 x.1.2.1, .int .i64 x.1.2.2] 36 (0, 0)) ∧ a' = {
        tmps := #[mV va vn vc la ln lc, Value.slice ea en ec, Value.pointer (some { block := D, off := 0 }), undef, Value.int IntKind.i64 0, Value.pointer (some { block := H3, off := 0 }), undef, Value.pointer (some { block := Bx, off := 0 }), undef, undef,
          undef, undef, undef, Value.agg #[Value.slice va vn vc, Value.slice la ln lc], Value.bool true, Value.bool false, Value.agg #[Value.slice va vn vc, Value.slice la ln lc], Value.map (some B), Value.slice ea en ec,
          Value.func (Fn.func 68) #[] #[Value.pointer (some { block := H3 + 1, off := 0 })], Value.int .i64 x.1.1, Value.agg #[Value.int .i64 x.1.2.1, Value.int .i64 x.1.2.2], undef, undef, undef, undef, undef, undef, undef, undef, undef, undef, undef, undef, undef, undef, undef,
          undef, undef, undef, undef, undef, undef, undef, undef, undef, undef, undef, undef, undef, undef, undef],
        defers := [] }) ?hAx ?assign ?body ?done ?stop
    case hI =>
      rintro s W W' row ⟨h1, h2, h3, h4⟩ hg hrow
      refine ⟨h1.kept hg (fun e => ?_), (hg.block H3 (Array.getElem?_eq_some_iff.1 h2).1 (fun e => ?_)).trans h2, h3.grown hg (by have := h3.size; omega) (fun g e => ?_), Nat.le_trans h4 hg.size⟩
      · have := (hrow B e.symm).1; omega
      · have := (hrow H3 e.symm).1; omega
      · have := (hrow g e).1; have := unhide hD3; omega
    case hAx =>
      rintro x a' s W W' row ⟨Bx, h1, h2, h3⟩ hg hrow
      refine ⟨Bx, h1, (hg.block Bx (Array.getElem?_eq_some_iff.1 h2).1 (fun e => ?_)).trans h2, h3⟩
      obtain ⟨_, o, ho, hc⟩ := hrow Bx e.symm
      rw [h2] at ho
      cases ho
      cases hc
    case assign =>
      rintro l0 pre x W K ⟨h1, h2, h3, h4⟩ hK
      simp only [encA]
      gi_wp2
      have ga := World.grownBy_alloc W (.cells #[Value.int .i64 x.1.2.1, Value.int .i64 x.1.2.2] 36) none
      refine hK _ _ ((KeepsOthers.alloc _ _).from _) (KC.grown ga (fun j o e => by cases e)) ⟨h1.kept ga (by simp), (ga.block H3 (Array.getElem?_eq_some_iff.1 h2).1 (by simp)).trans h2, h3.grown ga (by have := h3.size; omega) (by simp), Nat.le_trans h4 ga.size⟩ ⟨W.heap.size, ?_, heap_new _ _, rfl⟩
      exact h4
    case body =>
      rintro l0 pre x a' W hl0 ⟨r, hr⟩ ⟨hT, hR, hB, hZ⟩ ⟨Bx, hBx, hX, rfl⟩ hlt
      obtain ⟨⟨xi, x1, x2⟩, hx1, hx2⟩ := x
      have hx1' : In64 x1 := hx1
      have hx2' : In64 x2 := hx2
      have cR := box_cell hR 0 _ rfl
      have cX := box_cell hX 0 _ rfl
      have cY := box_cell hX 1 _ rfl
      obtain ⟨D0, hD0, hH, _, _⟩ := hT.map
      have HD0 := hide hD0
      have HH := hide (hH x1 hx1')
      obtain ⟨w5, hrun, t5, g5⟩ := hT.store x1 (max x2 0) hx1' (max64 hx2') (by simp only [maxLen]; omega)
      have T5 := hide t5
      have G5 := hide g5
      have HT := hide hT
      have HR := hide hR
      have HB := hide hB
      have HX1 := hide hx1'
      clear hD0 hH hT hR hB t5 g5 hx2' hr
      dsimp only at cX cY ⊢
      gi_wp2_with (gi_at_lookup; refine unhide ?_)
      refine hide ?_
      refine wpListIn_lookup_own_ok_int _ rfl _ _ 68 rfl 3 3 .i64 intLaw Try.underlying68 Try.underlying3 (zero64 _) B vn D0 rfl (unhide HD0) _ (.int .i64 x1) rfl (key64 (unhide HX1)) ?_
      intro cc hcc hwcc
      rw [unhide HH]
      clear hcc hwcc
      by_cases hxv : x1 ∈ v
      · have e1 : decide (x1 ∈ v) = true := by simp [hxv]
        rw [e1]
        have FIN := hide (show KeepsFrom w4.heap.size W w5 ∧ KC w4.heap.size W w5 ∧ TallyAt w5 B vn v (tallied v (placesOf (pre ++ [⟨(xi, x1, x2), hx1, hx2⟩]))) ∧ w5.heap[H3]? = some (.cells #[.map (some B)] 68 (0, 0)) ∧ Below D w w5 ∧ w4.heap.size ≤ w5.heap.size by
          have hBH : B ≠ H3 := by omega
          refine ⟨KeepsFrom.of_grownBy (unhide G5) (fun j e => by cases e; omega), KC.grown (unhide G5) (fun j o e ho => ?_), ?_, ((unhide G5).block H3 (Array.getElem?_eq_some_iff.1 (unhide HR)).1 (fun e => by cases e; exact hBH rfl)).trans (unhide HR), (unhide HB).grown (unhide G5) (by have := (unhide HB).size; omega) (fun g' hg' => by have := Option.some.inj hg'; have := unhide hBD; omega), Nat.le_trans hZ (unhide G5).size⟩
          · cases e
            obtain ⟨es', clock', hb', _⟩ := unhide HD0
            rw [hb'] at ho
            cases ho
            rfl
          · have t6 := unhide T5
            rw [if_pos hxv] at t6
            have t7 := t6.tight
            rw [unhide VN] at t7
            refine t7.congr (fun y _ => ?_)
            have e2 : placesOf (pre ++ [⟨(xi, x1, x2), hx1, hx2⟩]) = placesOf pre ++ [(x1, x2)] := by simp [placesOf]
            rw [e2, tallied_snoc]
            simp [stepA, hxv])
        clear e1 hxv HH HD0 T5 G5
        rcases Int.lt_trichotomy x2 0 with h0 | h0 | h0
        · have hm : max x2 0 = 0 := by omega
          rw [hm] at hrun
          gi_wp2
          exact unhide FIN
        · have hm : max x2 0 = 0 := by omega
          rw [hm] at hrun
          gi_wp2
          exact unhide FIN
        · have hm : max x2 0 = x2 := by omega
          rw [hm] at hrun
          gi_wp2
          exact unhide FIN
      · have e1 : decide (x1 ∈ v) = false := by simp [hxv]
        rw [e1]
        have FIN := hide (show TallyAt W B vn v (tallied v (placesOf (pre ++ [⟨(xi, x1, x2), hx1, hx2⟩]))) by
          have e2 : placesOf (pre ++ [⟨(xi, x1, x2), hx1, hx2⟩]) = placesOf pre ++ [(x1, x2)] := by simp [placesOf]
          rw [e2, tallied_snoc]
          have e3 : stepA v (tallied v (placesOf pre)) (x1, x2) = tallied v (placesOf pre) := by simp [stepA, hxv]
          rw [e3]
          exact unhide HT)
        clear e1 hxv hrun
        gi_wp2
        exact ⟨KeepsFrom.refl _ _, KC.refl _ _, unhide FIN, unhide HR, unhide HB, hZ⟩
    case done =>
      rintro D2 ys W hD2 hS ⟨hT, hR, hB, hZ⟩ hK
      have TF := hide hT
      have RF := hide hR
      have BF := hide hB
      have KF := hide hK
      have SF := hide hS
      have cR := box_cell hR 0 _ rfl
      clear hT hR hB hK hS
      obtain ⟨M, hM, hH, hA, hS'⟩ := (unhide TF).map
      have HM := hide hM
      have HH := hide hH
      have HA := hide hA
      have HS := hide hS'
      have PB := hide (show ∀ e ∈ placesOf ys, In64 e.1 ∧ In64 e.2 by
        intro e he
        obtain ⟨x, _, rfl⟩ := List.mem_map.1 he
        exact x.2)
      have f64 := hide (tallied_bd v (placesOf ys) (unhide PB))
      have FE := hide (show ∀ n ∈ v, tallied v (placesOf ys) n = reachM es n from fun n hn => by rw [unhide SF]; exact tallied_rev v hn es)
      generalize tallied v (placesOf ys) = f at *
      clear hM hH hA hS' PB SF
      dsimp only
      go_wp2_with (at_range; refine unhide ?_)
      refine hide ?_
      refine wpList_range_own _ rfl _ 68 rfl 3 3 intLaw Try.underlying68 _ B vn M rfl (unhide HM) ?_
      intro w0 hrg0 hg0 hs0
      have RG0 := hide hrg0
      have F0 := hide (show Below W.heap.size W w0 from ⟨hg0.os, hg0.tape, hg0.output, hg0.size, fun i hi => hg0.block i hi (by simp)⟩)
      clear hrg0 hg0 hs0
      go_frame
      go_wp2_with fail
      generalize hr0 : W.heap.size = r at *
      go_loopw [10] (fun v10 wr => ∃ (left : Lit → Bool) (cnt : Nat) (g : Int), v10 = .int .i64 g ∧ 0 ≤ g ∧ g ≤ 9223372036854775807 ∧ Hid (wr.ranges Try.prog 3 (plainElem Try.prog 3) B r vn M left cnt) ∧ Hid (∀ x, In64 x → left (.int .i64 x) = true → x ∈ v) ∧ Hid (g = 0 ∨ ∃ n ∈ v, f n = g ∧ v.length / 2 < countGe v f g) ∧ Hid (∀ n ∈ v, left (.int .i64 n) = false → v.length / 2 < countGe v f (f n) → f n ≤ g) ∧ Hid (Below r W wr)) (fun _ wr => wr.rangeLeft B r)
      case atStart =>
        refine ⟨Maps.has M, Maps.size M, 0, rfl, by omega, by omega, unhide RG0, fun x hx hl => ?_, .inl rfl, fun n hn hl => ?_, unhide F0⟩
        · rw [unhide HH x hx] at hl
          simpa using hl
        · rw [unhide HH n (by have := unhide IN n hn; constructor <;> omega)] at hl
          simp [hn] at hl
      case round =>
        obtain ⟨left, cnt, g, rfl, hg0, hg1, RG, HL, HG, HT2, F⟩ := hrel
        go_wp2_with (at_next; refine unhide ?_)
        refine hide ?_
        refine wpList_next_ranges_ii _ rfl _ rfl 3 3 .i64 .i64 intLaw Try.underlying3 Try.underlying3 B r vn M left cnt rfl (unhide RG) ?_ ?_
        · intro hc0 hl0
          have AG := hide (show AgreedIs v f g from ⟨hg0, unhide HG, fun n hn hc => unhide HT2 n hn (by rw [hl0]) hc⟩)
          have KF2 := hide (later_block (by rw [hr0]; exact unhide F) (unhide KF))
          clear hc0 hl0
          go_wp2
          refine ⟨by simp, .inl ⟨_, _, rfl, run_takeDeferred (unhide KF2), ?_⟩⟩
          refine ⟨_, results_tmp rfl _ _ _, ?_, ?_⟩
          · rw [((unhide AG).congr (unhide FE)).unique (agreed_is hr)]
            rfl
          · rw [hD]
            have h1 := (unhide BF).trans ((unhide F).mono (by have := (unhide BF).size; omega))
            exact h1.grown (grownBy_putObj' _ D2 _) (by have := h1.size; omega) (fun g' hg' => by have := Option.some.inj hg'; have := unhide hD3; omega)
        · intro x c w1 cnt1 hwx hwc hlx hat hrg1 hlt hg2 hs1 hen
          have hx64 : In64 x := i64_bounds hwx
          have hxv := unhide HL x hx64 hlx
          have hc : c = f x := by
            have h1 := hat (.lit (.int .i64 0))
            rw [unhide HA x hx64 hxv] at h1
            simpa using h1.symm
          subst hc
          have F1 := hide ((unhide F).grown hg2 (by have := (unhide F).size; omega) (fun g' hg' => by have := Option.some.inj hg'; omega))
          have RG1 := hide hrg1
          have HC := hide hlt
          have XV := hide hxv
          have fx64 := hide (unhide f64 x)
          have fx1 : f x ≤ 9223372036854775807 := (unhide f64 x).2
          clear hwx hwc hlx hat hrg1 hlt hg2 hs1 hx64 hxv
          have ga := hide (World.grownBy_alloc w1 (.cells #[.int .i64 (f x)] 3) none)
          have b2 := hide (show Below w1.heap.size w1 (w1.alloc (.cells #[.int .i64 (f x)] 3)) from (Below.refl _ _).alloc (Nat.le_refl _) _)
          have RG2 := hide ((unhide RG1).kept (unhide ga) (by simp) (by simp))
          have F2 := hide ((unhide F1).trans ((unhide b2).mono (by have := (unhide F1).size; omega)))
          have IX := hide (heap_new w1 (.cells #[.int .i64 (f x)] 3))
          have cI := box_cell (unhide IX) 0 _ rfl
          have cR2 := box_cell (later_block (by rw [hr0]; exact unhide F2) (unhide RF)) 0 _ rfl
          have T2 := hide ((unhide TF).later (by rw [hr0]; exact unhide F2))
          have HL2 := hide (show ∀ y, In64 y → (left (.int .i64 y) && !(Lit.int .i64 y).sameKey (.int .i64 x)) = true → y ∈ v from fun y hy hl => unhide HL y hy (by simp only [Bool.and_eq_true] at hl; exact hl.1))
          have LF := hide (show ∀ y, (left (.int .i64 y) && !(Lit.int .i64 y).sameKey (.int .i64 x)) = false → left (.int .i64 y) = false ∨ y = x from fun y hy => by
            by_cases e : y = x
            · exact .inr e
            · refine .inl ?_
              simpa [Lit.sameKey, e] using hy)
          have LQ := hide (show ∀ (W3 : World), Below w1.heap.size w1 W3 → (W3.rangeLeft B r = w1.rangeLeft B r) from fun W3 h3 => by
            rw [((unhide RG1).kept (grown_below none h3) (by simp) (by simp)).left_eq, (unhide RG1).left_eq])
          have LC := hide (show w1.rangeLeft B r < wr.rangeLeft B r by rw [(unhide RG1).left_eq, (unhide RG).left_eq]; exact unhide HC)
          have HD1 := hide (show w1.heap.size ≤ (w1.alloc (.cells #[.int .i64 (f x)] 3)).heap.size by simp)
          by_cases hgt : g < f x
          · go_wp2_with fail
            generalize hw2 : w1.alloc (.cells #[.int .i64 (f x)] 3) = w2' at *
            refine (majority_calls (unhide T2) (unhide ND) (fun x hx => by have := unhide IN x hx; constructor <;> omega) (fun x _ => unhide f64 x) (by omega) (agreed_picks (unhide IX))).mono ?_
            rintro e w5 ⟨rfl, b5⟩
            have F5 := hide ((unhide F2).trans (b5.mono (by have := (unhide F2).size; omega)))
            have RG5 := hide ((unhide RG2).kept (grown_below none b5) (by simp) (by simp))
            have M5 := hide (show Below w1.heap.size w1 w5 from (unhide b2).trans (b5.mono (unhide HD1)))
            have cI5 := box_cell (later_block b5 (unhide IX)) 0 _ rfl
            clear b5
            by_cases hmj : v.length / 2 < countGe v f (f x)
            · have e1 : decide (v.length / 2 < (v.filter fun y => decide (f x ≤ f y)).length) = true := decide_eq_true hmj
              have G2 := hide (show f x = 0 ∨ ∃ n ∈ v, f n = f x ∧ v.length / 2 < countGe v f (f x) from .inr ⟨x, unhide XV, rfl, hmj⟩)
              have HT3 := hide (show ∀ n ∈ v, (left (.int .i64 n) && !(Lit.int .i64 n).sameKey (.int .i64 x)) = false → v.length / 2 < countGe v f (f n) → f n ≤ f x from fun n hn hl hc => by
                rcases unhide LF n hl with h1 | rfl
                · have := unhide HT2 n hn h1 hc; omega
                · exact Int.le_refl _)
              rw [e1]
              clear e1 hmj
              go_wp2
              exact ⟨⟨_, cnt1, f x, rfl, by omega, fx1, unhide RG5, unhide HL2, unhide G2, unhide HT3, unhide F5⟩, by rw [unhide LQ _ (unhide M5)]; exact unhide LC⟩
            · have e1 : decide (v.length / 2 < (v.filter fun y => decide (f x ≤ f y)).length) = false := decide_eq_false hmj
              have HT3 := hide (show ∀ n ∈ v, (left (.int .i64 n) && !(Lit.int .i64 n).sameKey (.int .i64 x)) = false → v.length / 2 < countGe v f (f n) → f n ≤ g from fun n hn hl hc => by
                rcases unhide LF n hl with h1 | rfl
                · exact unhide HT2 n hn h1 hc
                · exact absurd hc hmj)
              rw [e1]
              clear e1 hmj
              go_wp2
              exact ⟨⟨_, cnt1, g, rfl, hg0, hg1, unhide RG5, unhide HL2, unhide HG, unhide HT3, unhide F5⟩, by rw [unhide LQ _ (unhide M5)]; exact unhide LC⟩
          · have HT3 := hide (show ∀ n ∈ v, (left (.int .i64 n) && !(Lit.int .i64 n).sameKey (.int .i64 x)) = false → v.length / 2 < countGe v f (f n) → f n ≤ g from fun n hn hl hc => by
              rcases unhide LF n hl with h1 | rfl
              · exact unhide HT2 n hn h1 hc
              · omega)
            go_wp2
            exact ⟨⟨_, cnt1, g, rfl, hg0, hg1, unhide RG2, unhide HL2, unhide HG, unhide HT3, unhide F2⟩, by rw [unhide LQ _ (unhide b2)]; exact unhide LC⟩
    case stop =>
      rintro D2 c pre W _ _ h _
      exact h.elim
end
end Go.Proofs.Ytnclkkoefejjiaa
