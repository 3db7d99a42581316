/- Voices under way: what each packet says, through the net's steps. -/
import Derived.Test.YtiapcpcdhonefaaMga
import Derived.Test.YtiapcpcdhonefaaMk1
import Derived.Test.YtiapcpcdhonefaaMbp
import Derived.Test.YtiapcpcdhonefaaFl14
namespace Go.Proofs.Ytiapcpcdhonefaa
open Go.ChangeShapes Go.WideShapes Go.ChangeAt Go.RowKit Go.Maps

/-- A packet is the voice of the i-th of all, for the one that it votes for. -/
def Vx (all : List Int) (vt : Nat → Int) (p : Pkt) : Prop := (∃ i, ∃ hi : i < all.length, all[i] = p.2.1 ∧ vt i = p.2.2.1) ∧ (p.2.2.1 = 1 ∨ p.2.2.1 = 2) ∧ In64 p.2.1 ∧ p.2.2.2.length ≤ 1
structure VoAt (base : Nat) (w : World) (N M : Nat) (all : List Int) (vt : Nat → Int) (age : Nat) : Prop where
  ex : ∃ sn cn xs last, NetAt base w N M 0 sn cn xs last (fun _ _ => false) (List.replicate 9 0) ∧ 0 ≤ last ∧ last ≤ age ∧ xs.length ≤ age ∧ ∀ x ∈ xs, Vx all vt x.1
/-- What a step of the net leaves as it was. -/
structure VoStep (base : Nat) (w w' : World) : Prop where
  bel : Below base w w'
  size : w.heap.size ≤ w'.heap.size
  kept : ∀ (g : Nat) (cs : Array Value) (T : TypeId) (fr : Nat × Nat), w.heap[g]? = some (Obj.cells cs T fr) → T ≠ 45 → T ≠ 36 → w'.heap[g]? = some (Obj.cells cs T fr)
section
variable {base : Nat} {w w' : World} {N M : Nat} {all : List Int} {vt : Nat → Int} {age : Nat}
theorem VoAt.later (h : VoAt base w N M all vt age) (hb : Below w.heap.size w w') : VoAt base w' N M all vt age := by
  obtain ⟨sn, cn, xs, last, h1, h2⟩ := h.ex
  exact ⟨sn, cn, xs, last, h1.later hb, h2⟩
theorem VoAt.older (h : VoAt base w N M all vt age) : VoAt base w N M all vt (age + 1) := by
  obtain ⟨sn, cn, xs, last, h1, h2, h3, h4, h5⟩ := h.ex
  exact ⟨sn, cn, xs, last, h1, h2, by omega, by omega, h5⟩
theorem VoStep.ofNGrew {n : Nat} {sn sn' : Option Addr} {cn : Nat} {xs : List (Pkt × Hdl)} {last : Int} {S : Int → Int → Bool} {ck : List Int} (h : NetAt base w N M n sn cn xs last S ck) (g : NGrew N M w sn w' sn') : VoStep base w w' := by
  refine ⟨h.below g, g.size, fun q cs T fr hq h1 h2 => (g.block q (Array.getElem?_eq_some_iff.1 hq).1 (fun e => ?_) (fun e => ?_) (fun e => ?_)).trans hq⟩
  · rw [e, h.blk] at hq
    simp only [Option.some.injEq, Obj.cells.injEq] at hq
    exact h1 hq.2.1.symm
  · obtain ⟨D, ⟨es, k, hM, _⟩, _⟩ := h.map
    rw [e, hM] at hq
    simp at hq
  · obtain ⟨cu, hcu⟩ := h.own.blk_is q e.symm
    rw [hcu] at hq
    simp only [Option.some.injEq, Obj.cells.injEq] at hq
    exact h2 hq.2.1.symm
theorem VoStep.ofBelow (hb : Below w.heap.size w w') (hbase : base ≤ w.heap.size) : VoStep base w w' := ⟨hb.mono hbase, hb.size, fun _ _ _ _ hq _ _ => later_block hb hq⟩
theorem OwnI.step {b : Nat} {a : Option Addr} {k : Nat} {l : List Int} (h : OwnI b w a k l) (s : VoStep base w w') : OwnI b w' a k l := by
  refine ⟨⟨h.owns.1, ?_⟩, h.bd⟩
  rcases h.owns.2 with hv | ⟨g, cap, cur, hv, hbg, hgg, r⟩
  · exact .inl hv
  · exact .inr ⟨g, cap, cur, hv, hbg, s.kept _ _ _ _ hgg (by decide) (by decide), r⟩
theorem OwnI.ne_block {b : Nat} {a : Option Addr} {k : Nat} {l : List Int} (h : OwnI b w a k l) {g : Nat} {cs : Array Value} {T : TypeId} {fr : Nat × Nat} (hg : w.heap[g]? = some (.cells cs T fr)) (hT : T ≠ 3) : blk a ≠ some g := by
  intro hs
  rcases h.owns.2 with ⟨hv, _⟩ | ⟨g1, cap, cur, hv, _, hh, _⟩
  · simp only [Value.slice.injEq] at hv
    rw [hv.1] at hs
    cases hs
  · simp only [Value.slice.injEq] at hv
    rw [hv.1] at hs
    obtain rfl : g1 = g := by simpa [blk] using hs
    rw [hh] at hg
    simp only [Option.some.injEq, Obj.cells.injEq] at hg
    exact hT hg.2.1.symm
theorem vo_send (h : VoAt base w N M all vt age) (ha : age ≤ 120) (i : Nat) (hi : i < all.length) (f t : Int) (hf : all[i] = f) (ht : vt i = t) (h1 : 1 ≤ f ∧ f ≤ 9) (h2 : t = 1 ∨ t = 2) (hne : f ≠ t) (B : Nat) (hB : BytesAt w (some ⟨B, 0, none⟩) [9]) (hBN : B ≠ N) :
    Calls Try.prog 6 #[.pointer (some ⟨N, 0, none⟩), .int .i64 f, .int .i64 t, .slice (some ⟨B, 0, none⟩) 1 1] w fun e w' => (∃ a b, e = .returned (.tuple #[.int .i64 a, .int .i64 b])) ∧ VoAt base w' N M all vt (age + 1) ∧ VoStep base w w' := by
  obtain ⟨sn, cn, xs, last, n1, l0, l1, lx, hx⟩ := h.ex
  have hL : isL f t = true := by
    have : 1 ≤ t ∧ t ≤ 9 := by omega
    simp [isL, isN, h1, this, hne]
  have e0 : sendX (fun _ _ => false) xs.length f t 1 = 0 := by
    unfold sendX
    rw [if_neg (by rw [hL]; simp), if_neg (by omega)]
    simp
  refine (send_fresh n1 f t ⟨by omega, by omega⟩ ⟨by omega, by omega⟩ (some ⟨B, 0, none⟩) 1 1 [9] rfl hB (fun b off _ e => by
    simp only [Option.some.injEq, Addr.mk.injEq, and_true] at e
    rw [← e.1]; exact hBN) (fun h => by cases h) l0 (by omega) e0).mono ?_
  rintro e w' ⟨rfl, sn', cn', hd, n2, g2, _⟩
  refine ⟨⟨_, _, rfl⟩, ⟨sn', cn', _, _, n2, by omega, by omega, by simp; omega, fun x hxx => ?_⟩, VoStep.ofNGrew n1 g2⟩
  rcases List.mem_append.1 hxx with h3 | h3
  · exact hx x h3
  · obtain rfl : x = _ := by simpa using h3
    exact ⟨⟨i, hi, hf, ht⟩, h2, (show In64 f from ⟨by omega, by omega⟩), by simp⟩
theorem has_natV {xs : List (Pkt × Hdl)} {i : Int} (h : hasP xs i = true) : ∃ k : Nat, i = (k : Int) ∧ k < xs.length := by
  simp only [hasP, Bool.and_eq_true, decide_eq_true_eq] at h
  exact ⟨i.toNat, by omega, by omega⟩
theorem vo_double (h : VoAt base w N M all vt age) (ha : age ≤ 120) (i : Int) :
    Calls Try.prog 7 #[.pointer (some ⟨N, 0, none⟩), .int .i64 i] w fun e w' => (∃ a b, e = .returned (.tuple #[.int .i64 a, .int .i64 b])) ∧ VoAt base w' N M all vt (age + 1) ∧ VoStep base w w' := by
  obtain ⟨sn, cn, xs, last, n1, l0, l1, lx, hx⟩ := h.ex
  by_cases hd0 : doubleX xs i = 0
  · have hh : hasP xs i = true := by
      unfold doubleX at hd0
      cases hq : hasP xs i
      · rw [hq] at hd0; simp at hd0
      · rfl
    obtain ⟨k, rfl, hk⟩ := has_natV hh
    have hv := hx _ (List.getElem_mem hk)
    refine (double_fresh n1 k hk (by omega) l0 (by omega) (by have := hv.2.2.2; omega)).mono ?_
    rintro e w' ⟨rfl, sn', cn', hd, n2, g2, _⟩
    refine ⟨⟨_, _, rfl⟩, ⟨sn', cn', _, _, n2, by omega, by omega, by simp; omega, fun x hxx => ?_⟩, VoStep.ofNGrew n1 g2⟩
    rcases List.mem_append.1 hxx with h3 | h3
    · exact hx x h3
    · obtain rfl : x = _ := by simpa using h3
      exact hv
  · refine (double_no n1 i hd0).mono ?_
    rintro e w' ⟨rfl, rfl⟩
    exact ⟨⟨_, _, rfl⟩, h.older, VoStep.ofNGrew n1 (NGrew.refl N M w' sn)⟩
theorem vo_take (h : VoAt base w N M all vt age) (ha : age ≤ 120) (hbase : base ≤ w.heap.size) (i : Int) :
    Calls Try.prog 8 #[.pointer (some ⟨N, 0, none⟩), .int .i64 i] w fun e w' => (e = .returned (.tuple #[.agg #[.int .i64 0, .int .i64 0, .int .i64 0, .slice none 0 0], .int .i64 8]) ∨ ∃ x : Pkt × Hdl, e = .returned (.tuple #[pkV x, .int .i64 0]) ∧ Vx all vt x.1) ∧ VoAt base w' N M all vt (age + 1) ∧ VoStep base w w' := by
  obtain ⟨sn, cn, xs, last, n1, l0, l1, lx, hx⟩ := h.ex
  cases hh : hasP xs i
  · refine (take_no n1 i hh).mono ?_
    rintro e w' ⟨rfl, b⟩
    exact ⟨.inl rfl, (h.later b).older, VoStep.ofBelow b hbase⟩
  · obtain ⟨k, rfl, hk⟩ := has_natV hh
    refine (take_yes n1 k hk (by omega)).mono ?_
    rintro e w' ⟨rfl, n2, g2⟩
    exact ⟨.inr ⟨_, rfl, hx _ (List.getElem_mem hk)⟩, ⟨sn, cn, _, last, n2, l0, by omega, by have := keep_len (sameId (xs[k]'hk).1.1) xs; omega, fun x hxx => hx x ((List.mem_filter.1 hxx).1)⟩, VoStep.ofNGrew n1 g2⟩
theorem nums_nodup (pick : Int → Bool) : ∀ k, (numsTo pick k).Nodup
  | 0 => by simp [numsTo]
  | k + 1 => by
    have ih := nums_nodup pick k
    unfold numsTo
    split
    · rw [List.nodup_append]
      refine ⟨ih, by simp, fun a ha b hb => ?_⟩
      have h1 := (nums_mem pick k a).1 ha
      have h2 : b = (k : Int) + 1 := by simpa using hb
      omega
    · exact ih
theorem allM_ok (v l : List Int) : (allM v l).length ≤ 9 ∧ (allM v l).Nodup ∧ ∀ x ∈ allM v l, 1 ≤ x ∧ x ≤ 9 := by
  unfold allM
  split
  · refine ⟨nums_len _ 9, nums_nodup _ 9, fun x hx => ?_⟩
    have := (nums_mem _ 9 x).1 hx
    exact ⟨this.1, by have := this.2.1; omega⟩
  · simp
/-- Who voted for one did not vote for the other. -/
def Heard (all : List Int) (vt : Nat → Int) (q : Int) (l : List Int) : Prop := ∀ a ∈ l, ∃ i, ∃ hi : i < all.length, all[i] = a ∧ vt i = q
theorem heard_apart {l1 l2 : List Int} (hnd : all.Nodup) (h1 : Heard all vt 1 l1) (h2 : Heard all vt 2 l2) : ∀ x, x ∈ l1 → x ∉ l2 := by
  intro x hx hx'
  obtain ⟨i, hi, e1, e2⟩ := h1 x hx
  obtain ⟨k, hk, e3, e4⟩ := h2 x hx'
  have : i = k := (List.getElem_inj (h₀ := hi) (h₁ := hk) hnd).1 (e1.trans e3.symm)
  subst this
  omega
theorem Heard.snoc {q : Int} {l : List Int} {f : Int} (h : Heard all vt q l) (hf : ∃ i, ∃ hi : i < all.length, all[i] = f ∧ vt i = q) : Heard all vt q (l ++ [f]) := by
  intro a ha
  rcases List.mem_append.1 ha with h1 | h1
  · exact h a h1
  · obtain rfl : a = f := by simpa using h1
    exact hf
theorem vo_aside (h : VoAt base w N M all vt age) {j : Nat} {cs : Array Value} {T : TypeId} {fr : Nat × Nat} (hj : w.heap[j]? = some (.cells cs T fr)) (h1 : T ≠ 45) (h2 : T ≠ 36) (h3 : T ≠ 5) (hg : w.grownBy w' (some j)) : VoAt base w' N M all vt age := by
  obtain ⟨sn, cn, xs, last, n1, r⟩ := h.ex
  obtain ⟨D, ⟨es, k, hM, _⟩, _⟩ := n1.map
  refine ⟨sn, cn, xs, last, net_apart n1 hg (fun e => ?_) (fun e => ?_) (n1.own.ne_block hj h2) (fun x hx g' hg' e => ?_), r⟩
  · rw [← e, n1.blk] at hj
    simp only [Option.some.injEq, Obj.cells.injEq] at hj
    exact h1 hj.2.1.symm
  · rw [← e, hM] at hj
    simp at hj
  · obtain rfl := Option.some.inj e
    exact (n1.own.dat.own x hx).1.ne_block hj h3 hg'
theorem OwnI.isInts {b : Nat} {a : Option Addr} {k : Nat} {l : List Int} (h : OwnI b w a k l) : ∀ g, blk a = some g → ∃ cur : Array Value, w.heap[g]? = some (.cells cur 3 (0, 0)) := by
  intro g hg
  rcases h.owns.2 with ⟨hv, _⟩ | ⟨g1, cap, cur, hv, _, hh, _⟩
  · simp only [Value.slice.injEq] at hv
    rw [hv.1] at hg
    cases hg
  · simp only [Value.slice.injEq] at hv
    rw [hv.1] at hg
    obtain rfl : g1 = g := by simpa [blk] using hg
    exact ⟨cur, hh⟩
theorem vo_asideI {b : Nat} {a : Option Addr} {k : Nat} {l : List Int} (h : VoAt base w N M all vt age) (ho : OwnI b w a k l) (hg : w.grownBy w' (blk a)) : VoAt base w' N M all vt age := by
  cases hb : blk a with
  | none =>
    rw [hb] at hg
    exact h.later ⟨hg.os, hg.tape, hg.output, hg.size, fun i hi => hg.block i hi (by simp)⟩
  | some g =>
    rw [hb] at hg
    obtain ⟨cur, hc⟩ := ho.isInts g hb
    exact vo_aside h hc (by decide) (by decide) (by decide) hg
abbrev gB (p1 : Option Addr) (n1 c1 : Nat) (p2 : Option Addr) (n2 c2 : Nat) : Obj := .cells #[.slice none 0 0, .slice p1 n1 c1, .slice p2 n2 c2] 33 (0, 0)
/-- The voices that were heard. -/
structure GotAt (bG : Nat) (w : World) (G : Nat) (all : List Int) (vt : Nat → Int) (p1 : Option Addr) (n1 c1 : Nat) (l1 : List Int) (p2 : Option Addr) (n2 c2 : Nat) (l2 : List Int) (len : Nat) : Prop where
  box : w.heap[G]? = some (gB p1 n1 c1 p2 n2 c2)
  e1 : l1.length = n1
  e2 : l2.length = n2
  o1 : OwnI bG w p1 c1 l1
  o2 : OwnI bG w p2 c2 l2
  ap : ∀ g, blk p1 = some g → blk p2 ≠ some g
  s1 : n1 ≤ len
  s2 : n2 ≤ len
  r1 : Heard all vt 1 l1
  r2 : Heard all vt 2 l2
variable {bG G : Nat} {p1 p2 : Option Addr} {n1 c1 n2 c2 len : Nat} {l1 l2 : List Int}
theorem GotAt.later (h : GotAt bG w G all vt p1 n1 c1 l1 p2 n2 c2 l2 len) (hb : Below w.heap.size w w') : GotAt bG w' G all vt p1 n1 c1 l1 p2 n2 c2 l2 len :=
  ⟨later_block hb h.box, h.e1, h.e2, h.o1.later hb, h.o2.later hb, h.ap, h.s1, h.s2, h.r1, h.r2⟩
theorem GotAt.older (h : GotAt bG w G all vt p1 n1 c1 l1 p2 n2 c2 l2 len) : GotAt bG w G all vt p1 n1 c1 l1 p2 n2 c2 l2 (len + 1) :=
  ⟨h.box, h.e1, h.e2, h.o1, h.o2, h.ap, by have := h.s1; omega, by have := h.s2; omega, h.r1, h.r2⟩
theorem GotAt.step (h : GotAt bG w G all vt p1 n1 c1 l1 p2 n2 c2 l2 len) (s : VoStep base w w') : GotAt bG w' G all vt p1 n1 c1 l1 p2 n2 c2 l2 len :=
  ⟨s.kept _ _ _ _ h.box (by decide) (by decide), h.e1, h.e2, h.o1.step s, h.o2.step s, h.ap, h.s1, h.s2, h.r1, h.r2⟩
theorem GotAt.put1 (h : GotAt bG w G all vt p1 n1 c1 l1 p2 n2 c2 l2 len) {f : Int} {W : World} {p' : Option Addr} {n' c' : Nat} (hg : w.grownBy W (blk p1)) (ho : OwnI bG W p' c' (l1 ++ [f])) (hn : (l1 ++ [f]).length = n') (hl : ∀ g, blk p' = some g → blk p1 = some g ∨ w.heap.size ≤ g) (hf : ∃ i, ∃ hi : i < all.length, all[i] = f ∧ vt i = 1) :
    W.heap[G]? = some (gB p1 n1 c1 p2 n2 c2) ∧ GotAt bG (W.setCell ⟨G, 1, none⟩ (.slice p' n' c')) G all vt p' n' c' (l1 ++ [f]) p2 n2 c2 l2 (len + 1) := by
  have hW : W.heap[G]? = some (gB p1 n1 c1 p2 n2 c2) := (hg.block G (Array.getElem?_eq_some_iff.1 h.box).1 (fun e => h.o1.ne_block h.box (by decide) e.symm)).trans h.box
  have hgs := grown_set W G 1 (.slice p' n' c')
  have o2 : OwnI bG W p2 c2 l2 := h.o2.kept hg (fun g hg' e => h.ap g e hg')
  refine ⟨hW, heap_setCell_same W G 1 _ 33 (.slice p' n' c') hW, hn, h.e2, ho.kept hgs (fun g hg' e => ho.ne_block hW (by decide) (hg'.trans e.symm)), o2.kept hgs (fun g hg' e => o2.ne_block hW (by decide) (hg'.trans e.symm)), fun g hg' hg2 => ?_, ?_, by have := h.s2; omega, h.r1.snoc hf, h.r2⟩
  · rcases hl g hg' with h3 | h3
    · exact h.ap g h3 hg2
    · have := (h.o2.blk_lt g hg2).2; omega
  · have := h.s1
    have := h.e1
    rw [List.length_append] at hn
    simp at hn
    omega
theorem GotAt.put2 (h : GotAt bG w G all vt p1 n1 c1 l1 p2 n2 c2 l2 len) {f : Int} {W : World} {p' : Option Addr} {n' c' : Nat} (hg : w.grownBy W (blk p2)) (ho : OwnI bG W p' c' (l2 ++ [f])) (hn : (l2 ++ [f]).length = n') (hl : ∀ g, blk p' = some g → blk p2 = some g ∨ w.heap.size ≤ g) (hf : ∃ i, ∃ hi : i < all.length, all[i] = f ∧ vt i = 2) :
    W.heap[G]? = some (gB p1 n1 c1 p2 n2 c2) ∧ GotAt bG (W.setCell ⟨G, 2, none⟩ (.slice p' n' c')) G all vt p1 n1 c1 l1 p' n' c' (l2 ++ [f]) (len + 1) := by
  have hW : W.heap[G]? = some (gB p1 n1 c1 p2 n2 c2) := (hg.block G (Array.getElem?_eq_some_iff.1 h.box).1 (fun e => h.o2.ne_block h.box (by decide) e.symm)).trans h.box
  have hgs := grown_set W G 2 (.slice p' n' c')
  have o1 : OwnI bG W p1 c1 l1 := h.o1.kept hg (fun g hg' e => h.ap g hg' e)
  refine ⟨hW, heap_setCell_same W G 2 _ 33 (.slice p' n' c') hW, h.e1, hn, o1.kept hgs (fun g hg' e => o1.ne_block hW (by decide) (hg'.trans e.symm)), ho.kept hgs (fun g hg' e => ho.ne_block hW (by decide) (hg'.trans e.symm)), fun g hg1 hg' => ?_, by have := h.s1; omega, ?_, h.r1, h.r2.snoc hf⟩
  · rcases hl g hg' with h3 | h3
    · exact h.ap g hg1 h3
    · have := (h.o1.blk_lt g hg1).2; omega
  · have := h.s2
    have := h.e2
    rw [List.length_append] at hn
    simp at hn
    omega
end
end Go.Proofs.Ytiapcpcdhonefaa
