/- Conf: places compared and sorted. -/
import Derived.Test.YtpkpnedcecjlbaaGreatDoorB17
import Derived.Test.YtpkpnedcecjlbaaGreatDoorB02
import Derived.Test.YtpkpnedcecjlbaaGreatDoorB08
import Derived.Shelf.SlSortCmp.NoneTotal
import Derived.Sort.Walk0
import Derived.RangeFuncNested
import Derived.RangeFuncBound
import Derived.RangeFuncWrites
import Derived.Sort.MapsRangeIn
import Derived.RangeFuncSeq
import Derived.Maps.OwnIn
import Derived.RangeFuncCalls
import Derived.RangeFuncLeaves
import Derived.Shelf.RegionOpen
import Derived.LoopNIn
import Derived.LoopIn
import Derived.TacticsInMore
import Derived.RegionIn
import Derived.OwnWalkIn
section
namespace Go.Proofs.YtpkpnedcecjlbaaGreatDoor
open Go.ChangeShapes Go.WideShapes Go.ChangeAt Go.RowKit Go.Sort Go.Shelf
set_option linter.unusedVariables false

theorem less_is (a b : ByteArray) : Op.bytesLess a.toList b.toList = decide (Kord.lt a b) := by
  rw [bytesLess_eq, ByteArray.toList_eq, ByteArray.toList_eq]; rfl
def cmpS {κ : Type} [Kord κ] (a b : κ) : Int := if Kord.lt a b then -1 else if Kord.lt b a then 1 else 0
theorem isNaN_str (x : ByteArray) (w : World) : Calls Tryz.prog 101 #[.string x] w fun e w' => e = .returned (.bool false) ∧ w' = w := by
  go_enter Tryz.func101, Tryz.ntmps101
  go_wp2
  go_ret
  exact ⟨by simp, rfl⟩
set_option maxRecDepth 20000 in
theorem compare_str (x y : ByteArray) (w : World) : Calls Tryz.prog 83 #[.string x, .string y] w fun e w' => e = .returned (.int .i64 (cmpS x y)) ∧ w' = w := by
  have K := hide (show cmpS x y = if Kord.lt x y then -1 else if Kord.lt y x then 1 else 0 from rfl)
  have l1 := less_is x y
  have l2 := less_is y x
  generalize cmpS x y = r at *
  by_cases h1 : Kord.lt x y
  · have R := hide (show r = -1 by rw [unhide K]; rw [if_pos h1])
    rw [decide_eq_true h1] at l1
    clear K l2 h1
    go_enter Tryz.func83, Tryz.ntmps83
    go_wp2_with (go_at_call 101; refine (isNaN_str _ _).mono ?_; rintro e V ⟨rfl, rfl⟩)
    go_ret
    exact ⟨by rw [unhide R]; rfl, rfl⟩
  · rw [decide_eq_false h1] at l1
    by_cases h2 : Kord.lt y x
    · have R := hide (show r = 1 by rw [unhide K]; rw [if_neg h1, if_pos h2])
      rw [decide_eq_true h2] at l2
      have le : (x.toList == y.toList) = false := by
        rw [beq_eq_false_iff_ne, ByteArray.toList_eq, ByteArray.toList_eq]
        intro e
        rw [bytes_ext e] at h2
        exact Kord.irr _ h2
      clear K h1 h2
      go_enter Tryz.func83, Tryz.ntmps83
      go_wp2_with (go_at_call 101; refine (isNaN_str _ _).mono ?_; rintro e V ⟨rfl, rfl⟩)
      go_ret
      exact ⟨by rw [unhide R]; rfl, rfl⟩
    · have R := hide (show r = 0 by rw [unhide K]; rw [if_neg h1, if_neg h2])
      rw [decide_eq_false h2] at l2
      have le : (x.toList == y.toList) = true := by
        rw [beq_iff_eq, ((Kord.tri x y).resolve_left h1).resolve_right h2]
      clear K h1 h2
      go_enter Tryz.func83, Tryz.ntmps83
      go_wp2_with (go_at_call 101; refine (isNaN_str _ _).mono ?_; rintro e V ⟨rfl, rfl⟩)
      go_ret
      exact ⟨by rw [unhide R]; rfl, rfl⟩
theorem cmpS_val {κ : Type} [Kord κ] (a b : κ) : cmpS a b = -1 ∨ cmpS a b = 1 ∨ cmpS a b = 0 := by
  unfold cmpS
  split
  · exact .inl rfl
  · split
    · exact .inr (.inl rfl)
    · exact .inr (.inr rfl)
/-- cmp.Or of two numbers. -/
def or2 (a b : Int) : Int := if a ≠ 0 then a else b
set_option maxRecDepth 20000 in
set_option maxHeartbeats 2000000 in
theorem or_calls (a b : Int) (w : World) (B c : Nat) (hB : w.heap[B]? = some (.cells #[.int .i64 a, .int .i64 b] 3 (0, 0))) : Calls Tryz.prog 82 #[.slice (some ⟨B, 0, none⟩) 2 c] w fun e w' => e = .returned (.int .i64 (or2 a b)) ∧ w' = w := by
  have c0 := box_cell hB 0 _ rfl
  have c1 := box_cell hB 1 _ rfl
  have K := hide (show or2 a b = if a ≠ 0 then a else b from rfl)
  generalize or2 a b = r at *
  clear hB
  go_enter Tryz.func82, Tryz.ntmps82
  go_wp2
  go_loopw [8] (fun i wr => ∃ j : Nat, j ≤ 2 ∧ i = .int .i64 (j : Int) ∧ Hid ((0 < j → a = 0) ∧ (1 < j → b = 0)) ∧ Hid (wr = w)) (fun i _ => 2 - (intOf i).toNat)
  case atStart => exact ⟨0, by omega, rfl, hide ⟨fun h => by omega, fun h => by omega⟩, hide rfl⟩
  case round =>
    obtain ⟨j, hj, rfl, hz, hw⟩ := hrel
    obtain ⟨hz1, hz2⟩ := unhide hz
    have hw' := unhide hw
    subst hw'
    clear hw
    match j, hj with
    | 0, _ =>
      by_cases ha : a = 0
      · have R := hide (show r = b by rw [unhide K, if_neg (by simpa using ha)])
        subst ha
        clear hz1 hz2 K hz
        go_wp2
        exact ⟨⟨1, by omega, rfl, hide ⟨fun _ => (by first | rfl | trivial), fun h => by omega⟩, hide (by first | rfl | trivial)⟩, by simp [intOf]⟩
      · have R := hide (show r = a by rw [unhide K, if_pos ha])
        have e1 : (a == 0) = false := by simpa using ha
        have e2 : (a != 0) = true := by simpa using ha
        clear hz1 hz2 K hz ha
        go_wp2
        go_ret
        exact ⟨by rw [unhide R]; rfl, rfl⟩
    | 1, _ =>
      have ha := hz1 (by omega)
      have R := hide (show r = b by rw [unhide K, if_neg (by simpa using ha)])
      have HA := hide ha
      clear hz1 hz2 K hz ha
      by_cases hb : b = 0
      · subst hb
        go_wp2
        exact ⟨⟨2, by omega, rfl, hide ⟨fun _ => unhide HA, fun _ => (by first | rfl | trivial)⟩, hide (by first | rfl | trivial)⟩, by simp [intOf]⟩
      · have e1 : (b == 0) = false := by simpa using hb
        have e2 : (b != 0) = true := by simpa using hb
        clear hb
        go_wp2
        go_ret
        exact ⟨by rw [unhide R]; rfl, rfl⟩
    | 2, _ =>
      have ha := hz1 (by omega)
      have hb := hz2 (by omega)
      have R := hide (show r = 0 by rw [unhide K, if_neg (by simpa using ha), hb])
      clear hz1 hz2 K hz ha hb
      go_wp2
      go_ret
      exact ⟨by rw [unhide R]; rfl, rfl⟩
theorem or_cmp (a b : ByteArray × ByteArray) : or2 (cmpS a.1 b.1) (cmpS a.2 b.2) = cmpS a b := by
  unfold or2
  have h : ∀ x y : ByteArray × ByteArray, Kord.lt x y ↔ (Kord.lt x.1 y.1 ∨ (x.1 = y.1 ∧ Kord.lt x.2 y.2)) := fun x y => Iff.rfl
  rcases Kord.tri a.1 b.1 with h1 | h1 | h1
  · have e1 : cmpS a.1 b.1 = -1 := by unfold cmpS; rw [if_pos h1]
    have e2 : cmpS a b = -1 := by unfold cmpS; rw [if_pos ((h _ _).2 (.inl h1))]
    rw [e1, e2]; rfl
  · have i1 : ¬ Kord.lt a.1 b.1 := by rw [h1]; exact Kord.irr _
    have i2 : ¬ Kord.lt b.1 a.1 := by rw [h1]; exact Kord.irr _
    have e1 : cmpS a.1 b.1 = 0 := by unfold cmpS; rw [if_neg i1, if_neg i2]
    rw [e1, if_neg (by simp)]
    unfold cmpS
    have p1 : Kord.lt a b ↔ Kord.lt a.2 b.2 := by rw [h]; exact ⟨fun q => q.elim (fun r => absurd r i1) (fun r => r.2), fun q => .inr ⟨h1, q⟩⟩
    have p2 : Kord.lt b a ↔ Kord.lt b.2 a.2 := by rw [h]; exact ⟨fun q => q.elim (fun r => absurd r i2) (fun r => r.2), fun q => .inr ⟨h1.symm, q⟩⟩
    by_cases q1 : Kord.lt a.2 b.2
    · rw [if_pos q1, if_pos (p1.2 q1)]
    · rw [if_neg q1, if_neg (fun r => q1 (p1.1 r))]
      by_cases q2 : Kord.lt b.2 a.2
      · rw [if_pos q2, if_pos (p2.2 q2)]
      · rw [if_neg q2, if_neg (fun r => q2 (p2.1 r))]
  · have i1 : ¬ Kord.lt a.1 b.1 := fun q => Kord.irr _ (Kord.tr q h1)
    have i2 : ¬ Kord.lt a b := fun q => ((h _ _).1 q).elim i1 (fun r => Kord.irr _ (r.1 ▸ h1))
    have e1 : cmpS a.1 b.1 = 1 := by unfold cmpS; rw [if_neg i1, if_pos h1]
    have e2 : cmpS a b = 1 := by unfold cmpS; rw [if_neg i2, if_pos ((h _ _).2 (.inl h1))]
    rw [e1, e2]; rfl
theorem ltP {κ : Type} [Kord κ] (x y : κ) : ltOf cmpS x y = decide (Kord.lt x y) := by
  unfold ltOf cmpS
  by_cases h1 : Kord.lt x y
  · simp [h1]
  · by_cases h2 : Kord.lt y x <;> simp [h1, h2]
theorem swoP {κ : Type} [Kord κ] : SWO (ltOf (cmpS (κ := κ))) where
  irrefl x := by rw [ltP]; simpa using Kord.irr x
  trans x y z h1 h2 := by rw [ltP] at *; simp at *; exact Kord.tr h1 h2
  ntrans x y z h1 h2 := by
    rw [ltP] at *
    simp at *
    intro h3
    rcases Kord.tri x y with h | h | h
    · exact h1 h
    · rw [h] at h3; exact h2 h3
    · exact h2 (Kord.tr h h3)
set_option maxRecDepth 20000 in
set_option maxHeartbeats 4000000 in
theorem closureP (x y : ByteArray × ByteArray) (W : World) : Calls Tryz.prog 53 #[plV x, plV y] W fun e w' => e = .returned (.int .i64 (cmpS x y)) ∧ ∃ q os', w' = grow (W.drewN q) os' := by
  have EQ := hide (or_cmp x y)
  unfold plV
  obtain ⟨xh, xp⟩ := x
  obtain ⟨yh, yp⟩ := y
  simp only at *
  generalize cmpS (xh, xp) (yh, yp) = r at *
  have s1 : (W.alloc (.cells #[.string xh, .string xp] 98)).heap.size = W.heap.size + 1 := by simp
  have X1 := hide (show ((W.alloc (.cells #[.string xh, .string xp] 98)).alloc (.cells #[.string yh, .string yp] 98)).heap[W.heap.size]? = some (.cells #[.string xh, .string xp] 98 (0, 0)) by rw [Below.heap_alloc _ _ _ (by simp)]; exact heap_new _ _)
  have X2 := hide (show ((W.alloc (.cells #[.string xh, .string xp] 98)).alloc (.cells #[.string yh, .string yp] 98)).heap[W.heap.size + 1]? = some (.cells #[.string yh, .string yp] 98 (0, 0)) by rw [← s1]; exact heap_new _ _)
  have GR := hide (show ∀ o, ∃ q os', (((W.alloc (.cells #[.string xh, .string xp] 98)).alloc (.cells #[.string yh, .string yp] 98)).drew.alloc o) = grow (W.drewN q) os' from fun o => ⟨1, _, by rw [alloc_eq_grow, alloc_eq_grow, alloc_eq_grow, grow_grow]; exact grow_grow W.drew _ _⟩)
  have SZ := hide (show ((W.alloc (.cells #[.string xh, .string xp] 98)).alloc (.cells #[.string yh, .string yp] 98)).heap.size = W.heap.size + 2 by simp)
  have c0 := box_cell (unhide X1) 0 (.string xh) rfl
  have c1 := box_cell (unhide X1) 1 (.string xp) rfl
  have d0 := box_cell (unhide X2) 0 (.string yh) rfl
  have d1 := box_cell (unhide X2) 1 (.string yp) rfl
  go_enter Tryz.func53, Tryz.ntmps53
  go_wp2_with fail
  generalize ((W.alloc (.cells #[.string xh, .string xp] 98)).alloc (.cells #[.string yh, .string yp] 98)) = V at *
  have CA := hide (compare_str xh yh)
  have CB := hide (compare_str xp yp)
  generalize cmpS xh yh = ra at *
  generalize cmpS xp yp = rb at *
  have OC := hide (or_calls ra rb (V.drew.alloc (.cells #[.int .i64 ra, .int .i64 rb] 3)) V.heap.size 2 (heap_new V.drew _))
  have KB := hide (show Below V.heap.size V (V.drew.alloc (.cells #[.int .i64 ra, .int .i64 rb] 3)) from ((Below.refl _ _).drew).alloc (Nat.le_refl _) _)
  have KC := hide (show (V.drew.alloc (.cells #[.int .i64 ra, .int .i64 rb] 3)).cell? ⟨W.heap.size, 0, none⟩ = some (.string xh) ∧ (V.drew.alloc (.cells #[.int .i64 ra, .int .i64 rb] 3)).cell? ⟨W.heap.size, 1, none⟩ = some (.string xp) ∧ (V.drew.alloc (.cells #[.int .i64 ra, .int .i64 rb] 3)).cell? ⟨W.heap.size + 1, 0, none⟩ = some (.string yh) ∧ (V.drew.alloc (.cells #[.int .i64 ra, .int .i64 rb] 3)).cell? ⟨W.heap.size + 1, 1, none⟩ = some (.string yp) from ⟨cell_later (unhide KB) c0, cell_later (unhide KB) c1, cell_later (unhide KB) d0, cell_later (unhide KB) d1⟩)
  refine wp_region_held_drew (S := fun w' => w'.cell? ⟨W.heap.size, 0, none⟩ = some (.string xh) ∧ w'.cell? ⟨W.heap.size, 1, none⟩ = some (.string xp) ∧ w'.cell? ⟨W.heap.size + 1, 0, none⟩ = some (.string yh) ∧ w'.cell? ⟨W.heap.size + 1, 1, none⟩ = some (.string yp)) (by kernel_rfl) ?_ (fun hHeld => ?_)
  · try dsimp only
    first | exact unhide KC | exact ⟨c0, c1, d0, d1⟩
  refine hT 0 ?_
  refine hT 1 ?_
  refine hT 2 ?_
  refine hT 3 ?_
  refine hT 5 ?_
  refine hT 6 ?_
  refine hT 7 ?_
  refine hT 8 ?_
  refine wpAnyH_ready (rs := [4]) (by kernel_rfl) (by simp) ?_
  refine AllReadyH.cons rfl (fun K hK => ?_) ?_
  · go_simp
    go_at_call 83
    refine (unhide CA _).mono ?_
    rintro e V1 ⟨rfl, rfl⟩
    go_wp2_with fail
    refine hK.out _ _ ?_ (fun hHeld => ?_)
    · try dsimp only
      first | exact unhide KC | exact ⟨c0, c1, d0, d1⟩
    clear hK K
    refine hP ?_
    refine wpAnyH_ready (rs := [9]) (by kernel_rfl) (by simp) ?_
    refine AllReadyH.cons rfl (fun K hK => ?_) ?_
    · go_simp
      go_at_call 83
      refine (unhide CB _).mono ?_
      rintro e V1 ⟨rfl, rfl⟩
      go_wp2_with fail
      refine hK.out _ _ ?_ (fun hHeld => ?_)
      · try dsimp only
        first | exact unhide KC | exact ⟨c0, c1, d0, d1⟩
      clear hK K
      refine hP ?_
      refine wpAnyH_ready (rs := [10]) (by kernel_rfl) (by simp) ?_
      refine AllReadyH.cons rfl (fun K hK => ?_) ?_
      · go_simp
        go_wp2_with fail
        refine hK.out _ _ ?_ (fun hHeld => ?_)
        · try dsimp only
          first | exact unhide KC | exact ⟨c0, c1, d0, d1⟩
        clear hK K
        refine hP ?_
        refine wpAnyH_ready (rs := [11]) (by kernel_rfl) (by simp) ?_
        refine AllReadyH.cons rfl (fun K hK => ?_) ?_
        · go_simp
          go_at_call 82
          refine (unhide OC).mono ?_
          rintro e V1 ⟨rfl, rfl⟩
          go_wp2_with fail
          refine hK.out _ _ ?_ (fun hHeld => ?_)
          · try dsimp only
            first | exact unhide KC | exact ⟨c0, c1, d0, d1⟩
          clear hK K
          refine hP ?_
          refine hT 12 ?_
          refine wpAnyH_done (by kernel_rfl) ?_ _
          go_wp2
          go_ret
          exact ⟨by rw [← unhide EQ]; rfl, unhide GR _⟩
        exact AllReadyH.nil
      exact AllReadyH.nil
    exact AllReadyH.nil
  exact AllReadyH.nil
end Go.Proofs.YtpkpnedcecjlbaaGreatDoor
end
/- Conf: the keys of a map of places, collected and sorted. -/
section
namespace Go.Proofs.YtpkpnedcecjlbaaGreatDoor
open Go.ChangeShapes Go.WideShapes Go.ChangeAt Go.RowKit Go.Maps Go.Shelf
set_option linter.unusedVariables false

attribute [local go_sem] Oper.semAt_some
/-- Which keys have come, which have not. -/
structure LeftK {P : Program} {K : TypeId} {κ : Type} (X : Kx P K κ) (fs : List (κ × Value)) (ks : List κ) (left : Lit → Bool) : Prop where
  nd : ks.Nodup
  sub : ∀ k ∈ ks, k ∈ fs.map (·.1)
  is : ∀ k ∈ fs.map (·.1), (left (X.kl k) = true ↔ k ∉ ks)
theorem LeftK.step {P : Program} {K : TypeId} {κ : Type} {X : Kx P K κ} {fs : List (κ × Value)} {ks : List κ} {left : Lit → Bool} (h : LeftK X fs ks left) (hsame : ∀ a b : κ, (X.kl a).sameKey (X.kl b) = true ↔ X.kl a = X.kl b) (hok : ∀ x ∈ fs, X.ok x.1) {k : κ} (hk : k ∈ fs.map (·.1)) (hl : left (X.kl k) = true) : LeftK X fs (ks ++ [k]) (fun z => left z && !z.sameKey (X.kl k)) := by
  have okk : ∀ a ∈ fs.map (·.1), X.ok a := fun a ha => by
    obtain ⟨y, hy, rfl⟩ := List.mem_map.1 ha
    exact hok y hy
  have hn := (h.is k hk).1 hl
  refine ⟨?_, ?_, ?_⟩
  · rw [List.nodup_append]
    refine ⟨h.nd, by simp, fun a ha b hb e => ?_⟩
    simp at hb
    subst hb e
    exact hn ha
  · intro a ha
    rcases List.mem_append.1 ha with ha | ha
    · exact h.sub a ha
    · simp at ha; rw [ha]; exact hk
  · intro a ha
    have hs : (X.kl a).sameKey (X.kl k) = true ↔ a = k := (hsame a k).trans ⟨fun e => X.inj (okk a ha) (okk k hk) e, fun e => by rw [e]⟩
    rw [Bool.and_eq_true, h.is a ha, List.mem_append, List.mem_singleton, Bool.not_eq_true', ← Bool.not_eq_true, hs, not_or]
section
variable {P : Program} {K : TypeId} {κ : Type} [Kord κ] {X : Kx P K κ} {w : World} {B : Nat} {fs : List (κ × Value)}
theorem LeftK.perm {ks : List κ} {left : Lit → Bool} (h : LeftK X fs ks left) (hr : Kr fs) (h0 : ∀ kl, left kl = false) : ks.Perm (fs.map (·.1)) := by
  refine (List.perm_ext_iff_of_nodup h.nd hr.nodup).2 fun k => ⟨h.sub k, fun hk => ?_⟩
  by_cases e : k ∈ ks
  · exact e
  · have := (h.is k hk).2 e
    rw [h0] at this
    cases this
theorem MapG.left (h : MapG X w B fs) : ∃ D : DataW Value, w.ownsMap P K valElem B fs.length D ∧ Maps.size D = fs.length ∧ LeftK X fs [] (Maps.has D) ∧ (∀ k, X.ok k → Maps.has D (X.kl k) = true → k ∈ fs.map (·.1)) ∧ (∀ x ∈ fs, ∀ zd, D.atKey (X.kl x.1) zd = .held x.2) := by
  obtain ⟨D, hD, hH, hA, hS⟩ := h.map
  refine ⟨D, hD, hS, ⟨List.nodup_nil, by simp, fun k hk => ?_⟩, fun k hk hh => (hH k hk).1 hh, hA⟩
  obtain ⟨y, hy, rfl⟩ := List.mem_map.1 hk
  have := (hH _ (h.okk y hy)).2 hk
  simp [this]
end
theorem sameP (a b : ByteArray × ByteArray) : (kxP.kl a).sameKey (kxP.kl b) = true ↔ kxP.kl a = kxP.kl b := by
  show (Lit.sameKey (plL a) (plL b)) = true ↔ plL a = plL b
  unfold plL Lit.sameKey
  simp
theorem sameKS (a b : ByteArray) : (kxS.kl a).sameKey (kxS.kl b) = true ↔ kxS.kl a = kxS.kl b := by
  show (Lit.sameKey (.string a.data.toList) (.string b.data.toList)) = true ↔ _
  simp [Lit.sameKey, kxS]
theorem sameKI (a b : Int) : (kxI.kl a).sameKey (kxI.kl b) = true ↔ kxI.kl a = kxI.kl b := by
  show (Lit.sameKey (.int .i64 a) (.int .i64 b)) = true ↔ _
  simp [Lit.sameKey, kxI]
abbrev Pl := ByteArray × ByteArray
def encPl (p : Pl) : Array Value := #[plV p]
set_option maxRecDepth 100000 in
set_option maxHeartbeats 4000000 in
theorem pkeys1_in (n : Nat) (hn : 1 ≤ n) (l Bm b : Nat) {fs : List (Pl × Value)} (J Jx : List Pl → World → Prop)
    (W : World) (hJ : AbidesFrom W.heap.size J) (hY : ∀ pre x W1, J pre W1 → pre.length < fs.length → YieldAt Fence.wide (n - 1) Tryz.prog l (encPl x) W1 fun e W' => (e = .returned (.bool true) ∧ J (pre ++ [x]) W' ∧ KeepsWalks W1 W') ∨ (e = .returned (.bool false) ∧ Jx (pre ++ [x]) W'))
    (hm : W.cell? ⟨Bm, 0, none⟩ = some (.map (some b))) (hown : MapG kxP W b fs) (h0 : J [] W) :
    CallsIn Fence.wide n Tryz.prog 81 #[.func (.yield l) #[] #[], .pointer (some ⟨Bm, 0, none⟩)] W fun e W' => (∃ v, e = .returned v) ∧ ((∃ ks : List Pl, ks.Perm (fs.map (·.1)) ∧ J ks W') ∨ (∃ pre, True ∧ Jx pre W')) := by
  obtain ⟨D0, hD, hS, hL, hH, hA⟩ := hown.left
  have hok := hown.okk
  have hrise := hown.rise
  refine callsIn_of_wp Tryz.func81 rfl trivial ?_ rfl
  simp only [Tryz.ntmps81, List.size_toArray, List.length_cons, List.length_nil, Nat.reduceAdd, Nat.reduceSub, Array.replicate_succ, Array.replicate_zero, List.push_toArray, List.append_toArray, List.nil_append, List.cons_append]
  gi_wp2_with (first
    | (gi_at_range; refine wpListIn_range_own _ rfl _ 83 rfl 98 67 placeLaw mapTR _ b fs.length _ rfl hD ?_; intro w0 hrg0 hg0 hs0)
    | gi_in)
  go_frame
  gi_loopw [3] (fun _ wr => ∃ (left : Lit → Bool) (cnt : Nat) (ks : List Pl), wr.ranges Tryz.prog 98 valElem b W.heap.size fs.length D0 left cnt ∧ ks.length + cnt ≤ fs.length ∧ LeftK kxP fs ks left ∧ J ks wr)
    (fun _ wr => wr.rangeLeft b W.heap.size)
  case atStart =>
    exact ⟨_, _, [], hrg0, by simp [hS], hL, hJ [] W w0 none h0 hg0 (fun r e => by cases e)⟩
  case round =>
    obtain ⟨left, cnt, ks, hrg, hcs, hC, hJs⟩ := hrel
    gi_wp2_with (first
      | (gi_at_next; refine wpListIn_next_ranges _ rfl _ rfl 98 placeLaw valElem plV id (fun key kl hk => by obtain ⟨x, _, hx, _⟩ := kxP.inv hk; exact ⟨x, hx⟩) (fun v _ _ => ⟨v, rfl⟩) b W.heap.size fs.length _ _ _ rfl hrg ?_ ?_)
      | gi_in)
    · intro hc0 hl0
      gi_wp2
      go_end0
      exact ⟨⟨_, rfl⟩, .inl ⟨ks, hC.perm hrise hl0, hJs⟩⟩
    · intro x1 x2 c kl yd yp w2 cnt2 hkey hlk hv hat hrg2 hlt hg2 hs2 hen
      obtain ⟨x', hok', ex, rfl⟩ := kxP.inv hkey
      obtain rfl : (x1, x2) = x' := kxP.vinj ex
      have hxf : (x1, x2) ∈ fs.map (·.1) := hH (x1, x2) hok' (has_true_of_atKey hat)
      have hJ2 : J ks w2 := hJ ks wr w2 (some W.heap.size) hJs hg2 (fun r e => by cases e; exact ⟨Nat.le_refl _, hrg.iter_walk⟩)
      have hC2 := hC.step sameP hok hxf hlk
      have ga := World.grownBy_alloc w2 (.cells #[.string x1, .string x2] 98) none
      have hJ3 : J ks (w2.alloc (.cells #[.string x1, .string x2] 98)) := hJ ks w2 _ none hJ2 ga (fun r e => by cases e)
      have hrg3 := hrg2.of_walks (KeepsWalks.alloc w2 (.cells #[.string x1, .string x2] 98))
      obtain ⟨fn, tmps, assign, body, hy, hR⟩ := hY ks (x1, x2) _ hJ3 (by omega)
      have hX := heap_new w2 (.cells #[.string x1, .string x2] 98)
      have q0 := box_cell hX 0 _ rfl
      have q1 := box_cell hX 1 _ rfl
      simp only [encPl, plV] at hy hen
      clear hs2
      gi_wp2
      refine hR.mono ?_
      rintro e W3 (⟨rfl, hJ4, hk3⟩ | ⟨rfl, hJx3⟩)
      · gi_wp2
        have hrg4 := hrg3.of_walks hk3
        go_roundw
        case rel => exact ⟨_, cnt2, ks ++ [(x1, x2)], hrg4, by simp; omega, hC2, hJ4⟩
        case measure => rw [hrg4.left_eq, hrg.left_eq]; exact hlt
      · gi_wp2
        refine bodyPost_ret (results_none rfl _ _ _) rfl ?_
        exact ⟨⟨_, rfl⟩, .inr ⟨_, trivial, hJx3⟩⟩
end Go.Proofs.YtpkpnedcecjlbaaGreatDoor
end
