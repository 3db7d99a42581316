/- The contract of wire.PutHard. -/
import Derived.Test.YtpkpnedcecjlbaaGreatDoorB06
import Derived.Test.YtpkpnedcecjlbaaGreatDoorB04
import Derived.Test.YtpkpnedcecjlbaaGreatDoorB05
import Derived.Test.YtpkpnedcecjlbaaGreatDoorB02
section
namespace Go.Proofs.YtpkpnedcecjlbaaGreatDoor
open Go.ChangeShapes Go.WideShapes Go.ChangeAt Go.RowKit

theorem size_alloc (w : World) (o : Obj) : (w.alloc o).heap.size = w.heap.size + 1 := by simp
theorem numB_short (n : Nat) (h : n ≤ 1099511627776) : (numB n).length ≤ 6 := by
  have key : ∀ (s m : Nat), m < 128 ^ (s + 1) → (numB m).length ≤ s + 1 := by
    intro s
    induction s with
    | zero => intro m hm; rw [numB_small (by simpa using hm)]; simp
    | succ s ih =>
      intro m hm
      by_cases h : m < 128
      · rw [numB_small h]; simp
      · rw [numB_great h, List.length_cons]
        have := ih (m / 128) (by rw [Nat.div_lt_iff_lt_mul (by decide)]; rw [Nat.pow_succ] at hm; exact hm)
        omega
  exact key 5 n (by omega)
end Go.Proofs.YtpkpnedcecjlbaaGreatDoor
end
/- What a reading behind 'caught' leaves: all blocks but two; a new reader. -/
section
namespace Go.Proofs.YtpkpnedcecjlbaaGreatDoor
open Go.ChangeShapes Go.WideShapes Go.ChangeAt Go.RowKit

/-- All blocks stay but two. -/
structure Kept (R N : Nat) (w w' : World) : Prop where
  os : w'.os = w.os
  tape : w'.tape = w.tape
  output : w'.output = w.output
  size : w.heap.size ≤ w'.heap.size
  block : ∀ j, j < w.heap.size → j ≠ R → j ≠ N → w'.heap[j]? = w.heap[j]?
theorem Kept.ofGrown {R N : Nat} {w w' : World} (h : w.grownBy w' (some R)) : Kept R N w w' :=
  ⟨h.os, h.tape, h.output, h.size, fun j hj hR _ => h.block j hj (fun e => hR (Option.some.inj e))⟩
theorem Kept.ofGrown' {R N : Nat} {w w' : World} (h : w.grownBy w' (some N)) : Kept R N w w' :=
  ⟨h.os, h.tape, h.output, h.size, fun j hj _ hN => h.block j hj (fun e => hN (Option.some.inj e))⟩
theorem Kept.refl (R N : Nat) (w : World) : Kept R N w w := ⟨rfl, rfl, rfl, Nat.le_refl _, fun _ _ _ _ => rfl⟩
theorem Kept.trans {R N : Nat} {a b c : World} (h : Kept R N a b) (k : Kept R N b c) : Kept R N a c :=
  ⟨k.os.trans h.os, k.tape.trans h.tape, k.output.trans h.output, Nat.le_trans h.size k.size, fun j hj h1 h2 => (k.block j (Nat.lt_of_lt_of_le hj h.size) h1 h2).trans (h.block j hj h1 h2)⟩
theorem Kept.below {R N B : Nat} {w w' : World} (h : Kept R N w w') (hB : B ≤ w.heap.size) (hR : B ≤ R) (hN : B ≤ N) : Below B w w' :=
  ⟨h.os, h.tape, h.output, h.size, fun j hj => h.block j (by omega) (by omega) (by omega)⟩

theorem rd_new {w W : World} {a : Option Addr} {c : Nat} {l : List Nat} {k R : Nat} (hb : BytesAt w a l) (hW : Below w.heap.size w W) (hR : w.heap.size ≤ R) (hblk : W.heap[R]? = some (.cells #[.slice a l.length c, .int .i64 (k : Int)] 129 (0, 0))) (hk : k ≤ l.length) : RdAt R W a c l k :=
  ⟨hblk, hb.later hW, fun b off h0 e => by have := block_lt hb h0 b off e; omega, hk⟩
end Go.Proofs.YtpkpnedcecjlbaaGreatDoor
end
/- The contract of wire.TakeNumber. -/
section
namespace Go.Proofs.YtpkpnedcecjlbaaGreatDoor
open Go.ChangeShapes Go.WideShapes Go.ChangeAt Go.RowKit

theorem heap_old {w : World} {g : Nat} {x : Obj} (o : Obj) (h : w.heap[g]? = some x) : (w.alloc o).heap[g]? = some x :=
  (Below.heap_alloc w o g (Array.getElem?_eq_some_iff.1 h).1).trans h

theorem take_arg (a : Option Addr) (c : Nat) (l : List Nat) (k : Int) (w : World) (h : ¬ (0 ≤ k ∧ k ≤ (l.length : Int))) :
    Calls Tryz.prog 69 #[.slice a l.length c, .int .i64 k] w fun e w' => e = .returned (.tuple #[.int .i64 0, .int .i64 0, .int .i64 2]) ∧ w' = w := by
  have H := hide h
  clear h
  go_enter Tryz.func69, Tryz.ntmps69
  go_wp2_with fail
  refine (within_no k 0 l.length _ (unhide H)).mono ?_
  rintro e w' ⟨rfl, rfl⟩
  go_wp2
  go_ret3
  exact ⟨rfl, rfl⟩
theorem enter_take (c : Array Value) (w : World) : (callFunc 94 c).run Tryz.prog w = .ok (.enter 94 c) w := by
  simp [callFunc, go_sem, Tryz.func94]
  rw [if_neg (by decide +kernel), if_neg (fun h => by cases h)]
theorem take1_ok (R N : Nat) (z : Int) (a : Option Addr) (c : Nat) (l : List Nat) (k n k2 : Nat) (w : World) (h : RdAt R w a c l k) (hl : l.length ≤ maxLen) (hN : w.heap[N]? = some (.cells #[.int .i64 z] 3 (0, 0))) (hne : N ≠ R) (ht : takeN l k = (0, n, k2)) :
    Calls Tryz.prog 94 #[.pointer (some ⟨R, 0, none⟩), .pointer (some ⟨N, 0, none⟩)] w fun e w' => e = .returned (.tuple #[]) ∧ w'.heap[N]? = some (.cells #[.int .i64 (n : Int)] 3 (0, 0)) ∧ w'.heap[R]? = some (.cells #[.slice a l.length c, .int .i64 (k2 : Int)] 129 (0, 0)) ∧ Kept R N w w' := by
  have HN := hide hN
  have HR := hide h
  clear hN h
  go_enter Tryz.func94, Tryz.ntmps94
  go_wp2_with fail
  refine (number_ok R a c l k n k2 _ (unhide HR) hl ht).mono ?_
  rintro e w1 ⟨rfl, hr1, hg1⟩
  have hN1 : w1.heap[N]? = some (.cells #[.int .i64 z] 3 (0, 0)) := (hg1.block N (Array.getElem?_eq_some_iff.1 (unhide HN)).1 (fun e => hne (Option.some.inj e))).trans (unhide HN)
  have hc : w1.cell? ⟨N, 0, none⟩ = some (.int .i64 z) := by rw [cell_of_row _ _ 0 _ _ _ hN1]; rfl
  have hz : w1.frozen? ⟨N, 0, none⟩ = false := by simp [World.frozen?, hN1]
  have hN2 := heap_setCell_same w1 N 0 _ 3 (.int .i64 (n : Int)) hN1
  have H2 := hide hN2
  have HR1 := hide hr1
  have HG1 := hide hg1
  clear hN1 hN2 hr1 hg1
  go_wp2
  go_end0
  refine ⟨rfl, unhide H2, ?_, (Kept.ofGrown (unhide HG1)).trans (Kept.ofGrown' (grown_set _ _ _ _))⟩
  rw [heap_setCell_other _ _ _ _ (fun e => hne e.symm)]
  exact (unhide HR1).blk
theorem take1_bad (R N : Nat) (a : Option Addr) (c : Nat) (l : List Nat) (k x : Nat) (w : World) (h : RdAt R w a c l k) (hl : l.length ≤ maxLen) (ht : (takeN l k).1 = x) (hx : x ≠ 0) :
    Calls Tryz.prog 94 #[.pointer (some ⟨R, 0, none⟩), .pointer (some ⟨N, 0, none⟩)] w fun e w' => e = .panicked (given x) ∧ Kept R N w w' := by
  have HR := hide h
  clear h
  go_enter Tryz.func94, Tryz.ntmps94
  go_wp2_with fail
  refine (number_bad R a c l k x _ (unhide HR) hl ht hx).mono ?_
  rintro e w1 ⟨rfl, ⟨k', hr1⟩, hg1⟩
  go_wp2
  exact ⟨rfl, rfl, Kept.ofGrown hg1⟩

theorem take_ok (a : Option Addr) (m c : Nat) (l : List Nat) (k n k2 : Nat) (kk : Int) (w : World) (hm : l.length = m) (hkk : kk = (k : Int)) (hl : l.length ≤ maxLen) (hk : k ≤ l.length) (hb : BytesAt w a l) (ht : takeN l k = (0, n, k2)) :
    Calls Tryz.prog 69 #[.slice a m c, .int .i64 kk] w fun e w' => e = .returned (.tuple #[.int .i64 (n : Int), .int .i64 (k2 : Int), .int .i64 0]) ∧ Below w.heap.size w w' := by
  subst hm hkk
  have HB := hide hb
  have HT := hide ht
  have HL := hide hl
  clear hb ht hl
  have hmf : ∀ (fn : Fn) (first cap : Array Value) (w : World), (Instr.makeFunc fn first cap).run Tryz.prog w = .ok (.func fn first cap) w := fun _ _ _ _ => rfl
  go_enter Tryz.func69, Tryz.ntmps69
  go_wp2_with fail
  refine (within_yes k 0 l.length _ ⟨by omega, by omega⟩).mono ?_
  rintro e w' ⟨rfl, rfl⟩
  go_wp2_with fail
  have hN0 := heap_new w' (.cells #[.int .i64 0] 3)
  have hR0 := heap_new (w'.alloc (.cells #[.int .i64 0] 3)) (.cells #[.slice a l.length c, .int .i64 (k : Int)] 129)
  have hN1 := heap_old (.cells #[.slice a l.length c, .int .i64 (k : Int)] 129) hN0
  rw [size_alloc] at hR0
  have hbl : Below w'.heap.size w' ((w'.alloc (.cells #[.int .i64 0] 3)).alloc (.cells #[.slice a l.length c, .int .i64 (k : Int)] 129)) := ((Below.refl _ _).alloc (Nat.le_refl _) _).alloc (by rw [size_alloc]; omega) _
  have hsz : ((w'.alloc (.cells #[.int .i64 0] 3)).alloc (.cells #[.slice a l.length c, .int .i64 (k : Int)] 129)).heap.size = w'.heap.size + 2 := by rw [size_alloc, size_alloc]
  generalize (w'.alloc (.cells #[.int .i64 0] 3)).alloc (.cells #[.slice a l.length c, .int .i64 (k : Int)] 129) = W at *
  have hbl2 : Below w'.heap.size w' (W.alloc (.cells #[.int .i64 0] 27)) := hbl.alloc hbl.size _
  have hE := heap_new W (.cells #[.int .i64 0] 27)
  have hr := rd_new (unhide HB) hbl2 (Nat.le_succ _) (heap_old _ hR0) hk
  have hN2 := heap_old (.cells #[.int .i64 0] 27) hN1
  refine (caught_calls 94 _ W enter_take _ (take1_ok (w'.heap.size + 1) w'.heap.size 0 a c l k n k2 _ hr (unhide HL) hN2 (by omega) (unhide HT)) ?_ ?_).mono ?_
  · rintro e w1 ⟨_, _, _, hk1⟩
    exact (hk1.block _ (by rw [size_alloc]; omega) (by omega) (by omega)).trans hE
  · rintro e w1 ⟨rfl, _⟩
    exact .inl rfl
  · rintro e w2 ⟨e1, w1, ⟨rfl, h1, h2, hk1⟩, hg, ⟨_, rfl⟩ | ⟨x, hx, _⟩⟩
    · have h1' : w2.heap[w'.heap.size]? = _ := (hg.block _ (Array.getElem?_eq_some_iff.1 h1).1 (fun e => by have := Option.some.inj e; omega)).trans h1
      have h2' : w2.heap[w'.heap.size + 1]? = _ := (hg.block _ (Array.getElem?_eq_some_iff.1 h2).1 (fun e => by have := Option.some.inj e; omega)).trans h2
      have c1 : w2.cell? ⟨w'.heap.size, 0, none⟩ = some (.int .i64 (n : Int)) := by rw [cell_of_row _ _ 0 _ _ _ h1']; rfl
      have c2 : w2.cell? ⟨w'.heap.size + 1, 1, none⟩ = some (.int .i64 (k2 : Int)) := by rw [cell_of_row _ _ 1 _ _ _ h2']; rfl
      have HF := hide ((hbl2.trans (hk1.below (by rw [size_alloc]; omega) (by omega) (Nat.le_refl _))).trans ((Below.refl w'.heap.size w1).grown hg (by have := hk1.size; rw [size_alloc] at this; omega) (fun j e => by have := Option.some.inj e; omega)))
      clear h1 h2 h1' h2' hk1 hg hE hr hN2 hN1 hN0 hR0 hbl hbl2
      go_wp2_with fail
      go_quiet (fail)
      go_wp2
      go_ret3
      exact ⟨rfl, (unhide HF).trans ⟨rfl, rfl, rfl, Nat.le_refl _, fun _ _ => rfl⟩⟩
    · cases hx
theorem take_bad (a : Option Addr) (m c : Nat) (l : List Nat) (k x : Nat) (kk : Int) (w : World) (hm : l.length = m) (hkk : kk = (k : Int)) (hl : l.length ≤ maxLen) (hk : k ≤ l.length) (hb : BytesAt w a l) (ht : (takeN l k).1 = x) (hx : x ≠ 0) :
    Calls Tryz.prog 69 #[.slice a m c, .int .i64 kk] w fun e w' => e = .returned (.tuple #[.int .i64 0, .int .i64 0, .int .i64 (x : Int)]) ∧ Below w.heap.size w w' := by
  subst hm hkk
  have HB := hide hb
  have HT := hide ht
  have HL := hide hl
  clear hb ht hl
  have hmf : ∀ (fn : Fn) (first cap : Array Value) (w : World), (Instr.makeFunc fn first cap).run Tryz.prog w = .ok (.func fn first cap) w := fun _ _ _ _ => rfl
  go_enter Tryz.func69, Tryz.ntmps69
  go_wp2_with fail
  refine (within_yes k 0 l.length _ ⟨by omega, by omega⟩).mono ?_
  rintro e w' ⟨rfl, rfl⟩
  go_wp2_with fail
  have hR0 := heap_new (w'.alloc (.cells #[.int .i64 0] 3)) (.cells #[.slice a l.length c, .int .i64 (k : Int)] 129)
  rw [size_alloc] at hR0
  have hbl : Below w'.heap.size w' ((w'.alloc (.cells #[.int .i64 0] 3)).alloc (.cells #[.slice a l.length c, .int .i64 (k : Int)] 129)) := ((Below.refl _ _).alloc (Nat.le_refl _) _).alloc (by rw [size_alloc]; omega) _
  have hsz : ((w'.alloc (.cells #[.int .i64 0] 3)).alloc (.cells #[.slice a l.length c, .int .i64 (k : Int)] 129)).heap.size = w'.heap.size + 2 := by rw [size_alloc, size_alloc]
  generalize (w'.alloc (.cells #[.int .i64 0] 3)).alloc (.cells #[.slice a l.length c, .int .i64 (k : Int)] 129) = W at *
  have hbl2 : Below w'.heap.size w' (W.alloc (.cells #[.int .i64 0] 27)) := hbl.alloc hbl.size _
  have hE := heap_new W (.cells #[.int .i64 0] 27)
  have hr := rd_new (unhide HB) hbl2 (Nat.le_succ _) (heap_old _ hR0) hk
  refine (caught_calls 94 _ W enter_take _ (take1_bad (w'.heap.size + 1) w'.heap.size a c l k x _ hr (unhide HL) (unhide HT) hx) ?_ ?_).mono ?_
  · rintro e w1 ⟨_, hk1⟩
    exact (hk1.block _ (by rw [size_alloc]; omega) (by omega) (by omega)).trans hE
  · rintro e w1 ⟨rfl, _⟩
    exact .inr ⟨x, rfl⟩
  · rintro e w2 ⟨e1, w1, ⟨rfl, hk1⟩, hg, ⟨hx, _⟩ | ⟨y, hy, rfl⟩⟩
    · cases hx
    · have hxy : y = x := by
        simp only [given, Ending.panicked.injEq, List.cons.injEq, PanicEntry.mk.injEq, Value.iface.injEq, Value.agg.injEq, and_true, true_and] at hy
        have := congrArg (fun z : Array Value => z[0]?) hy
        simp at this
        omega
      subst hxy
      have HF := hide ((hbl2.trans (hk1.below (by rw [size_alloc]; omega) (by omega) (Nat.le_refl _))).trans ((Below.refl w'.heap.size w1).grown hg (by have := hk1.size; rw [size_alloc] at this; omega) (fun j e => by have := Option.some.inj e; omega)))
      clear hk1 hg hE hr hR0 hbl hbl2
      have hx0 : ¬ (y : Int) = 0 := by omega
      go_wp2
      go_ret3
      exact ⟨rfl, unhide HF⟩
end Go.Proofs.YtpkpnedcecjlbaaGreatDoor
end
/- Plain: a number that is put is taken as it was, and no other bytes are taken for it. -/
section
namespace Go.Proofs.YtpkpnedcecjlbaaGreatDoor

theorem pow_split (q m s : Nat) : m + q % 128 * 128 ^ s + q / 128 * 128 ^ (s + 1) = m + q * 128 ^ s := by
  have h := Nat.div_add_mod q 128
  have e : q * 128 ^ s = (128 * (q / 128) + q % 128) * 128 ^ s := by rw [h]
  have e2 : q / 128 * 128 ^ (s + 1) = 128 * (q / 128) * 128 ^ s := by rw [Nat.pow_succ, Nat.mul_comm (128 ^ s) 128, ← Nat.mul_assoc, Nat.mul_comm (q / 128) 128]
  rw [e, e2, Nat.add_mul]
  omega
theorem takeF_num (l : List Nat) : ∀ (f s m k q : Nat), (numB q).length ≤ f → (s = 0 ∨ 0 < q) → m + q * 128 ^ s ≤ 1099511627776 → (∀ i, i < (numB q).length → l.getD (k + i) 0 = (numB q).getD i 0) → k + (numB q).length ≤ l.length →
    takeF l f s m k = (0, m + q * 128 ^ s, k + (numB q).length) := by
  intro f
  induction f with
  | zero => intro s m k q hf; have := (numB_length q).1; omega
  | succ f ih =>
    intro s m k q hf h0 hmax hget hlen
    by_cases hq : q < 128
    · rw [numB_small hq] at hf hget hlen ⊢
      have hx : l.getD k 0 = q := by simpa using hget 0 (by simp)
      simp only [List.length_cons, List.length_nil] at hlen ⊢
      rw [takeF_ok f s m hx (by omega) (by omega) (by omega) (by omega)]
    · rw [numB_great hq] at hf hget hlen ⊢
      simp only [List.length_cons] at hf hlen ⊢
      have hx : l.getD k 0 = q % 128 + 128 := by simpa using hget 0 (by simp)
      have h1 := (numB_length (q / 128)).1
      rw [takeF_more f s m hx (by omega) (by omega) (by omega)]
      have e : (q % 128 + 128) % 128 = q % 128 := by omega
      rw [e, ih (s + 1) (m + q % 128 * 128 ^ s) (k + 1) (q / 128) (by omega) (.inr (by omega)) (by rw [pow_split]; exact hmax) ?_ (by omega)]
      · rw [pow_split]
        simp only [Prod.mk.injEq, true_and]
        omega
      · intro i hi
        have := hget (i + 1) (by simp only [List.length_cons]; omega)
        rw [show k + 1 + i = k + (i + 1) by omega, this]
        simp
theorem getD_append_right (a b : List Nat) (i : Nat) : (a ++ b).getD (a.length + i) 0 = b.getD i 0 := by
  rw [List.getD_eq_getElem?_getD, List.getD_eq_getElem?_getD, List.getElem?_append_right (by omega)]
  congr 2
  omega
theorem getD_append_left (a b : List Nat) (i : Nat) (h : i < a.length) : (a ++ b).getD i 0 = a.getD i 0 := by
  rw [List.getD_eq_getElem?_getD, List.getD_eq_getElem?_getD, List.getElem?_append_left h]
theorem numB_six (n : Nat) (h : n ≤ 1099511627776) : (numB n).length ≤ 6 := by
  have key : ∀ (s m : Nat), m < 128 ^ (s + 1) → (numB m).length ≤ s + 1 := by
    intro s
    induction s with
    | zero => intro m hm; rw [numB_small (by simpa using hm)]; simp
    | succ s ih =>
      intro m hm
      by_cases h : m < 128
      · rw [numB_small h]; simp
      · rw [numB_great h, List.length_cons]
        have := ih (m / 128) (by rw [Nat.div_lt_iff_lt_mul (by decide)]; rw [Nat.pow_succ] at hm; exact hm)
        omega
  exact key 5 n (by omega)
/-- A number that is put is taken as it was, whatever stands around it. -/
theorem takeN_num (a b : List Nat) (n : Nat) (h : n ≤ 1099511627776) : takeN (a ++ (numB n ++ b)) a.length = (0, n, a.length + (numB n).length) := by
  have := takeF_num (a ++ (numB n ++ b)) 6 0 0 a.length n (numB_six n h) (.inl rfl) (by simpa using h) (fun i hi => by rw [getD_append_right, getD_append_left _ _ _ hi]) (by simp only [List.length_append]; omega)
  simpa [takeN] using this
/-- A number that is taken has just its bytes there. -/
theorem takeF_back (l : List Nat) (hl : ∀ c ∈ l, c < 256) : ∀ (f s m k n k2 : Nat), takeF l f s m k = (0, n, k2) →
    ∃ q, n = m + q * 128 ^ s ∧ k2 = k + (numB q).length ∧ k2 ≤ l.length ∧ (∀ i, i < (numB q).length → l.getD (k + i) 0 = (numB q).getD i 0) ∧ (0 < s → 0 < q) ∧ n ≤ 1099511627776 := by
  intro f
  induction f with
  | zero => intro s m k n k2 h; simp [takeF] at h
  | succ f ih =>
    intro s m k n k2 h
    rw [takeF] at h
    split at h
    · simp at h
    · next hk =>
      have hx256 : l.getD k 0 < 256 := by
        rw [List.getD_eq_getElem?_getD, List.getElem?_eq_getElem (by omega)]
        exact hl _ (List.getElem_mem _)
      generalize hx : l.getD k 0 = x at *
      split at h
      · next h128 =>
        split at h
        · simp at h
        · obtain ⟨q, h1, h2, h3, h4, h5, h6⟩ := ih _ _ _ _ _ h
          have hq := h5 (by omega)
          refine ⟨128 * q + x % 128, ?_, ?_, h3, ?_, fun _ => by omega, h6⟩
          · rw [h1, ← pow_split (128 * q + x % 128) m s]
            have e1 : (128 * q + x % 128) % 128 = x % 128 := by omega
            have e2 : (128 * q + x % 128) / 128 = q := by omega
            rw [e1, e2]
          · rw [numB_great (by omega), List.length_cons, h2]
            have e2 : (128 * q + x % 128) / 128 = q := by omega
            rw [e2]; omega
          · intro i hi
            have e1 : (128 * q + x % 128) % 128 + 128 = x := by omega
            have e2 : (128 * q + x % 128) / 128 = q := by omega
            have hn : numB (128 * q + x % 128) = x :: numB q := by rw [numB_great (by omega), e1, e2]
            rw [hn] at hi ⊢
            cases i with
            | zero => simpa using hx
            | succ i =>
              rw [List.length_cons] at hi
              rw [show k + (i + 1) = k + 1 + i by omega, h4 i (by omega)]
              simp
      · next h128 =>
        split at h
        · simp at h
        · next h0 =>
          split at h
          · simp at h
          · next hb =>
            simp only [Prod.mk.injEq, true_and] at h
            obtain ⟨rfl, rfl⟩ := h
            refine ⟨x, rfl, by rw [numB_small (by omega)]; simp, by omega, ?_, fun hs => by omega, by omega⟩
            intro i hi
            rw [numB_small (by omega)] at hi ⊢
            simp only [List.length_cons, List.length_nil] at hi
            obtain rfl : i = 0 := by omega
            simpa using hx
end Go.Proofs.YtpkpnedcecjlbaaGreatDoor
end
/- Plain: entries and hard states that are put are got as they were, and no other bytes are taken for them. -/
section
namespace Go.Proofs.YtpkpnedcecjlbaaGreatDoor

theorem takeE_num (a b : List Nat) (n : Nat) (h : n ≤ 1099511627776) : takeE (a ++ (numB n ++ b)) a.length = .ok (n, a.length + (numB n).length) := by
  rw [takeE, takeN_num a b n h]
  rfl
theorem takeE_at {l a b : List Nat} {k n : Nat} (hl : l = a ++ (numB n ++ b)) (hk : k = a.length) (h : n ≤ 1099511627776) : takeE l k = .ok (n, k + (numB n).length) := by
  subst hl hk
  exact takeE_num a b n h
theorem drop_of_getD (l : List Nat) : ∀ (m : List Nat) (k : Nat), k + m.length ≤ l.length → (∀ i, i < m.length → l.getD (k + i) 0 = m.getD i 0) → l.drop k = m ++ l.drop (k + m.length) := by
  intro m
  induction m with
  | nil => intro k _ _; simp
  | cons x r ih =>
    intro k hk hg
    have hlt : k < l.length := by simp only [List.length_cons] at hk; omega
    have h0 := hg 0 (by simp)
    rw [List.drop_eq_getElem_cons hlt, ih (k + 1) (by simp only [List.length_cons] at hk; omega) (fun i hi => by
      have := hg (i + 1) (by simp only [List.length_cons]; omega)
      rw [show k + 1 + i = k + (i + 1) by omega, this]; simp)]
    have e : l[k] = x := by
      rw [Nat.add_zero, List.getD_eq_getElem?_getD, List.getElem?_eq_getElem hlt] at h0
      simpa using h0
    rw [e, List.cons_append, List.length_cons, show k + 1 + r.length = k + (r.length + 1) by omega]
/-- A number that is taken has just its bytes there. -/
theorem takeE_back {l : List Nat} (hl : ∀ c ∈ l, c < 256) {k n k2 : Nat} (h : takeE l k = .ok (n, k2)) : l.drop k = numB n ++ l.drop k2 ∧ k2 = k + (numB n).length ∧ k2 ≤ l.length ∧ n ≤ 1099511627776 := by
  have h0 : takeN l k = (0, n, k2) := by
    unfold takeE at h
    split at h
    · next h1 =>
      simp only [Except.ok.injEq, Prod.mk.injEq] at h
      rw [← h.1, ← h.2, ← h1]
    · cases h
  obtain ⟨q, h1, h2, h3, h4, _, h6⟩ := takeF_back l hl 6 0 0 k n k2 h0
  obtain rfl : n = q := by simpa using h1
  refine ⟨?_, h2, h3, h6⟩
  rw [drop_of_getD l (numB n) k (by omega) h4, h2]
/-- The bytes of an entry. -/
def entB' (k t i : Nat) (d : List Nat) : List Nat := k :: (numB t ++ (numB i ++ (numB d.length ++ d)))
theorem oneE_at {l a b : List Nat} {k x lo hi : Nat} (hl : l = a ++ x :: b) (hk : k = a.length) (h : lo ≤ x ∧ x ≤ hi) : oneE l lo hi k = .ok (x, k + 1) := by
  subst hl hk
  have e : (a ++ x :: b).getD a.length 0 = x := by simp
  rw [oneE, if_pos (by simp), e, if_pos h]
theorem dataE_at {l a d b : List Nat} {k n : Nat} (hl : l = a ++ (d ++ b)) (hk : k = a.length) (hn : n = d.length) : dataE l n k = .ok (d, k + d.length) := by
  subst hl hk hn
  rw [dataE, if_neg (by simp only [List.length_append]; omega), List.drop_left, List.take_left]
/-- May an entry be, as numbers? -/
def EntOk (k t i : Nat) (d : List Nat) : Prop := (1 ≤ k ∧ k ≤ 3) ∧ (1 ≤ t ∧ t ≤ 1099511627776) ∧ (1 ≤ i ∧ i ≤ 1099511627776) ∧ (k = 1 → d = []) ∧ d.length ≤ 2048
theorem posE_at {l a b : List Nat} {k n : Nat} (hl : l = a ++ (numB n ++ b)) (hk : k = a.length) (h : 1 ≤ n ∧ n ≤ 1099511627776) : posE l k = .ok (n, k + (numB n).length) := by
  rw [posE, takeE_at hl hk h.2]
  simp only [if_neg (show ¬ n = 0 by omega)]
theorem sizeE_at {l a b : List Nat} {kd k n : Nat} (hl : l = a ++ (numB n ++ b)) (hk : k = a.length) (h : n ≤ 2048) (h1 : kd = 1 → n = 0) : sizeE l kd k = .ok (n, k + (numB n).length) := by
  rw [sizeE, takeE_at hl hk (by omega)]
  simp only [if_neg (show ¬ (kd = 1 ∧ 0 < n) from fun h => by have := h1 h.1; omega), if_neg (show ¬ 2048 < n by omega)]
theorem entryE_at {l a b : List Nat} {k kd t i : Nat} {d : List Nat} (hl : l = a ++ (entB' kd t i d ++ b)) (hk : k = a.length) (h : EntOk kd t i d) : entryE l k = .ok ((kd, t, i, d), k + (entB' kd t i d).length) := by
  obtain ⟨h1, h2, h3, h4, h5⟩ := h
  have e1 : l = a ++ kd :: (numB t ++ (numB i ++ (numB d.length ++ (d ++ b)))) := by rw [hl]; simp [entB', List.append_assoc]
  have e2 : l = (a ++ [kd]) ++ (numB t ++ (numB i ++ (numB d.length ++ (d ++ b)))) := by rw [e1]; simp
  have e3 : l = (a ++ [kd] ++ numB t) ++ (numB i ++ (numB d.length ++ (d ++ b))) := by rw [e2]; simp
  have e4 : l = (a ++ [kd] ++ numB t ++ numB i) ++ (numB d.length ++ (d ++ b)) := by rw [e3]; simp
  have e5 : l = (a ++ [kd] ++ numB t ++ numB i ++ numB d.length) ++ (d ++ b) := by rw [e4]; simp
  rw [entryE, oneE_at e1 hk h1]
  simp only [posE_at e2 (show k + 1 = _ by rw [hk]; simp only [List.length_append, List.length_cons, List.length_nil]) h2]
  simp only [posE_at e3 (show k + 1 + (numB t).length = _ by rw [hk]; simp only [List.length_append, List.length_cons, List.length_nil]) h3]
  simp only [sizeE_at e4 (show k + 1 + (numB t).length + (numB i).length = _ by rw [hk]; simp only [List.length_append, List.length_cons, List.length_nil]) h5 (fun e => by rw [h4 e]; rfl)]
  simp only [dataE_at e5 (show k + 1 + (numB t).length + (numB i).length + (numB d.length).length = _ by rw [hk]; simp only [List.length_append, List.length_cons, List.length_nil]) rfl]
  congr 2
  simp only [entB', List.length_cons, List.length_append]
  omega
theorem posE_back {l : List Nat} (hl : ∀ c ∈ l, c < 256) {k n k2 : Nat} (h : posE l k = .ok (n, k2)) : l.drop k = numB n ++ l.drop k2 ∧ k2 = k + (numB n).length ∧ k2 ≤ l.length ∧ 1 ≤ n ∧ n ≤ 1099511627776 := by
  unfold posE at h
  split at h
  · cases h
  · next h1 =>
    split at h
    · cases h
    · simp only [Except.ok.injEq, Prod.mk.injEq] at h
      obtain ⟨rfl, rfl⟩ := h
      obtain ⟨a1, a2, a3, a4⟩ := takeE_back hl h1
      exact ⟨a1, a2, a3, by omega, a4⟩
theorem sizeE_back {l : List Nat} (hl : ∀ c ∈ l, c < 256) {kd k n k2 : Nat} (h : sizeE l kd k = .ok (n, k2)) : l.drop k = numB n ++ l.drop k2 ∧ k2 = k + (numB n).length ∧ k2 ≤ l.length ∧ n ≤ 2048 ∧ (kd = 1 → n = 0) := by
  unfold sizeE at h
  split at h
  · cases h
  · next h1 =>
    split at h
    · cases h
    · split at h
      · cases h
      · simp only [Except.ok.injEq, Prod.mk.injEq] at h
        obtain ⟨rfl, rfl⟩ := h
        obtain ⟨a1, a2, a3, a4⟩ := takeE_back hl h1
        exact ⟨a1, a2, a3, by omega, fun e => by omega⟩
theorem dataE_back {l : List Nat} {n k k2 : Nat} {d : List Nat} (hk : k ≤ l.length) (h : dataE l n k = .ok (d, k2)) : l.drop k = d ++ l.drop k2 ∧ k2 = k + d.length ∧ k2 ≤ l.length ∧ d.length = n := by
  unfold dataE at h
  split at h
  · cases h
  · simp only [Except.ok.injEq, Prod.mk.injEq] at h
    obtain ⟨rfl, rfl⟩ := h
    have hlen : ((l.drop k).take n).length = n := by rw [List.length_take, List.length_drop]; omega
    refine ⟨?_, by rw [hlen], by omega, hlen⟩
    rw [← List.drop_drop, List.take_append_drop]
theorem oneE_back {l : List Nat} {lo hi k x k2 : Nat} (h : oneE l lo hi k = .ok (x, k2)) : l.drop k = x :: l.drop k2 ∧ k2 = k + 1 ∧ k2 ≤ l.length ∧ lo ≤ x ∧ x ≤ hi := by
  unfold oneE at h
  split at h
  · next hk =>
    split at h
    · next h1 =>
      simp only [Except.ok.injEq, Prod.mk.injEq] at h
      obtain ⟨rfl, rfl⟩ := h
      refine ⟨?_, rfl, hk, h1⟩
      rw [List.drop_eq_getElem_cons hk, List.getD_eq_getElem?_getD, List.getElem?_eq_getElem hk]
      rfl
    · cases h
  · cases h
theorem entryE_back {l : List Nat} (hl : ∀ c ∈ l, c < 256) {k kd t i k2 : Nat} {d : List Nat} (h : entryE l k = .ok ((kd, t, i, d), k2)) : l.drop k = entB' kd t i d ++ l.drop k2 ∧ k2 = k + (entB' kd t i d).length ∧ k2 ≤ l.length ∧ EntOk kd t i d := by
  unfold entryE at h
  split at h
  · cases h
  · next h1 =>
    split at h
    · cases h
    · next h2 =>
      split at h
      · cases h
      · next h3 =>
        split at h
        · cases h
        · next h4 =>
          split at h
          · cases h
          · next h5 =>
            simp only [Except.ok.injEq, Prod.mk.injEq] at h
            obtain ⟨⟨rfl, rfl, rfl, rfl⟩, rfl⟩ := h
            obtain ⟨a1, a2, a3, a4, a5⟩ := oneE_back h1
            obtain ⟨b1, b2, b3, b4, b5⟩ := posE_back hl h2
            obtain ⟨c1, c2, c3, c4, c5⟩ := posE_back hl h3
            obtain ⟨d1, d2, d3, d4, d5⟩ := sizeE_back hl h4
            obtain ⟨e1, e2, e3, e4⟩ := dataE_back d3 h5
            refine ⟨?_, ?_, e3, ⟨a4, a5⟩, ⟨b4, b5⟩, ⟨c4, c5⟩, fun e => List.eq_nil_of_length_eq_zero (by rw [e4]; exact d5 e), by omega⟩
            · rw [a1, b1, c1, d1, e1]; simp [entB', e4, List.append_assoc]
            · simp only [entB', List.length_cons, List.length_append, e4]; omega
theorem wholeE_ok {α : Type} {l : List Nat} {r : Except Nat (α × Nat)} {x : α} (h : wholeE l r = .ok x) : ∃ k, r = .ok (x, k) ∧ ¬ k < l.length := by
  unfold wholeE at h
  split at h
  · cases h
  · split at h
    · cases h
    · cases h; exact ⟨_, rfl, by assumption⟩
/-- An entry that is put is got as it was. -/
theorem entry_got {kd t i : Nat} {d : List Nat} (h : EntOk kd t i d) : wholeE (entB' kd t i d) (entryE (entB' kd t i d) 0) = .ok (kd, t, i, d) := by
  rw [entryE_at (l := entB' kd t i d) (a := []) (b := []) (k := 0) (by simp) rfl h]
  simp only [wholeE, Nat.zero_add, if_neg (Nat.lt_irrefl _)]
/-- Bytes that are taken for an entry are just its bytes. -/
theorem entry_back {l : List Nat} (hl : ∀ c ∈ l, c < 256) {kd t i : Nat} {d : List Nat} (h : wholeE l (entryE l 0) = .ok (kd, t, i, d)) : l = entB' kd t i d ∧ EntOk kd t i d := by
  obtain ⟨k, h1, h2⟩ := wholeE_ok h
  obtain ⟨a1, a2, a3, a4⟩ := entryE_back hl h1
  rw [List.drop_zero, List.drop_eq_nil_of_le (by omega), List.append_nil] at a1
  exact ⟨a1, a4⟩
theorem hard_got {t v : Nat} (ht : t ≤ 1099511627776) (hv : v ≤ 9) : wholeE (numB t ++ numB v) (hardE (numB t ++ numB v) 0) = .ok (t, v) := by
  have e1 : numB t ++ numB v = [] ++ (numB t ++ numB v) := by simp
  have e2 : numB t ++ numB v = numB t ++ (numB v ++ []) := by simp
  rw [hardE, takeE_at (k := 0) e1 rfl ht]
  simp only [takeE_at e2 (show 0 + (numB t).length = _ by omega) (by omega), if_neg (show ¬ 9 < v by omega)]
  simp only [wholeE, List.length_append, Nat.zero_add, if_neg (Nat.lt_irrefl _)]
end Go.Proofs.YtpkpnedcecjlbaaGreatDoor
end
/- wire.TakeNumber at a place that may be. -/
section
namespace Go.Proofs.YtpkpnedcecjlbaaGreatDoor
open Go.ChangeShapes Go.WideShapes Go.ChangeAt Go.RowKit
set_option linter.unusedVariables false

theorem takeE_leb {l : List Nat} {k n k2 : Nat} (h : takeE l k = .ok (n, k2)) (hl : ∀ c ∈ l, c < 256) : k2 ≤ l.length ∧ n ≤ 1099511627776 := by
  obtain ⟨_, _, h3, h4⟩ := takeE_back hl h
  exact ⟨h3, h4⟩
theorem takeNum_ok (a : Option Addr) (m c : Nat) (l : List Nat) (k n k2 : Nat) (w : World) (hm : l.length = m) (hl : m ≤ maxLen) (hk : k ≤ l.length) (hb : BytesAt w a l) (ht : takeE l k = .ok (n, k2)) :
    Calls Tryz.prog 69 #[.slice a m c, .int .i64 (k : Int)] w fun e w' => e = .returned (.tuple #[.int .i64 (n : Int), .int .i64 (k2 : Int), .int .i64 0]) ∧ Below w.heap.size w w' := by
  unfold takeE at ht
  split at ht
  · rename_i h0
    simp only [Except.ok.injEq, Prod.mk.injEq] at ht
    refine take_ok a m c l k n k2 (k : Int) w hm rfl (by omega) hk hb ?_
    rw [← ht.1, ← ht.2, ← h0]
  · cases ht
theorem takeNum_bad (a : Option Addr) (m c : Nat) (l : List Nat) (k x : Nat) (w : World) (hm : l.length = m) (hl : m ≤ maxLen) (hk : k ≤ l.length) (hb : BytesAt w a l) (ht : takeE l k = .error x) :
    Calls Tryz.prog 69 #[.slice a m c, .int .i64 (k : Int)] w fun e w' => e = .returned (.tuple #[.int .i64 0, .int .i64 0, .int .i64 (x : Int)]) ∧ Below w.heap.size w w' := by
  have hx := takeE_pos ht
  unfold takeE at ht
  split at ht
  · cases ht
  · simp only [Except.error.injEq] at ht
    exact take_bad a m c l k x (k : Int) w hm rfl (by omega) hk hb ht hx
end Go.Proofs.YtpkpnedcecjlbaaGreatDoor
end
/- Conf, plainly: what the program's reader does. -/
section
namespace Go.Proofs.YtpkpnedcecjlbaaGreatDoor
open Go.ChangeShapes Go.WideShapes Go.ChangeAt Go.RowKit
set_option linter.unusedVariables false

/-- The program's reader: a place, and the first error. -/
def failK (e x : Nat) : Nat := if e = 0 then x else e
def numK (h : List Nat) (k e : Nat) : Nat × Nat × Nat := if e ≠ 0 then (0, k, e) else match takeE h k with
  | .ok (n, k2) => (n, k2, 0)
  | .error x => (0, k, x)
def cutX (h : List Nat) (k e n : Nat) : Nat := if h.length - k < n then failK e 3 else e
def cutK (h : List Nat) (k e n : Nat) : List Nat × Nat × Nat := if cutX h k e n ≠ 0 then ([], k, cutX h k e n) else ((h.drop k).take n, k + n, 0)
def endK (h : List Nat) (k e : Nat) : Nat := if k < h.length then failK e 4 else e
def cntK (h : List Nat) (k e m : Nat) : Nat × Nat × Nat :=
  let a := numK h k e
  if m < a.1 then (0, a.2.1, failK a.2.2 6) else a
def txtK (h : List Nat) (k e : Nat) : List Nat × Nat × Nat :=
  let a := cntK h k e 128
  cutK h a.2.1 a.2.2 a.1
/-- Bytes as a number, the greatest first. -/
def numOf (b : List Nat) : Nat := b.foldl (fun x c => x * 256 + c) 0
def wtK (h : List Nat) (k e : Nat) : Nat × Nat × Nat :=
  let a := cutK h k e 8
  (numOf a.1, a.2.1, a.2.2)
def tgK (h : List Nat) (k e : Nat) : Tgt × Nat × Nat :=
  let a := txtK h k e
  let b := wtK h a.2.1 a.2.2
  ((strOf a.1, b.1), b.2.1, b.2.2)
def tgsG (h : List Nat) : Nat → Nat → Nat → List Tgt × Nat × Nat
  | 0, k, e => ([], k, e)
  | n + 1, k, e =>
    let a := tgK h k e
    let r := tgsG h n a.2.1 a.2.2
    (a.1 :: r.1, r.2.1, r.2.2)
def tgsK (h : List Nat) (k e : Nat) : List Tgt × Nat × Nat :=
  let a := cntK h k e 16
  tgsG h a.1 a.2.1 a.2.2
theorem numK_ok {h : List Nat} {k n k2 : Nat} (ht : takeE h k = .ok (n, k2)) : numK h k 0 = (n, k2, 0) := by simp [numK, ht]
theorem numK_bad {h : List Nat} {k x : Nat} (ht : takeE h k = .error x) : numK h k 0 = (0, k, x) := by simp [numK, ht]
theorem numK_err {h : List Nat} {k e : Nat} (he : e ≠ 0) : numK h k e = (0, k, e) := by simp [numK, he]
theorem failK_err {e x : Nat} (he : e ≠ 0) : failK e x = e := by simp [failK, he]
theorem cutK_err {h : List Nat} {k e n : Nat} (he : e ≠ 0) : cutK h k e n = ([], k, e) := by
  have : cutX h k e n = e := by unfold cutX; rw [failK_err he]; simp
  simp [cutK, this, he]
theorem numK_le {h : List Nat} (hb : ∀ c ∈ h, c < 256) (k e : Nat) : (numK h k e).1 ≤ 1099511627776 := by
  unfold numK
  split
  · simp
  · cases ht : takeE h k with
    | ok q => obtain ⟨n, k2⟩ := q; exact (takeE_leb ht hb).2
    | error x => simp
theorem cntK_le (h : List Nat) (k e m : Nat) : (cntK h k e m).1 ≤ m := by
  unfold cntK
  dsimp only
  split
  · simp
  · omega
theorem numOf_snoc (b : List Nat) (c : Nat) : numOf (b ++ [c]) = numOf b * 256 + c := by simp [numOf]
theorem numOf_go : ∀ (b : List Nat) (x : Nat), (∀ c ∈ b, c < 256) → b.foldl (fun x c => x * 256 + c) x < (x + 1) * 256 ^ b.length
  | [], x, _ => by simp
  | c :: b, x, hb => by
    have h1 := numOf_go b (x * 256 + c) (fun y hy => hb y (by simp [hy]))
    have h2 := hb c (by simp)
    have h3 : (x * 256 + c + 1) * 256 ^ b.length ≤ ((x + 1) * 256) * 256 ^ b.length := Nat.mul_le_mul_right _ (by omega)
    have h4 : ((x + 1) * 256) * 256 ^ b.length = (x + 1) * 256 ^ (b.length + 1) := by rw [Nat.pow_succ, Nat.mul_assoc, Nat.mul_comm 256]
    simp only [List.foldl_cons, List.length_cons]
    omega
theorem numOf_lt (b : List Nat) (hb : ∀ c ∈ b, c < 256) : numOf b < 256 ^ b.length := by
  have := numOf_go b 0 hb
  simpa [numOf] using this
theorem numOf_lt8 (b : List Nat) (hb : ∀ c ∈ b, c < 256) (h : b.length ≤ 8) : numOf b < 18446744073709551616 :=
  Nat.lt_of_lt_of_le (numOf_lt b hb) (Nat.le_trans (Nat.pow_le_pow_right (by decide) h) (by decide))
theorem numOf_lt7 (b : List Nat) (hb : ∀ c ∈ b, c < 256) (h : b.length ≤ 7) : numOf b < 72057594037927936 :=
  Nat.lt_of_lt_of_le (numOf_lt b hb) (Nat.le_trans (Nat.pow_le_pow_right (by decide) h) (by decide))
theorem numOf_take (b : List Nat) (j : Nat) (h : j < b.length) : numOf (b.take (j + 1)) = numOf (b.take j) * 256 + b[j] := by
  rw [List.take_succ_eq_append_getElem h, numOf_snoc]
end Go.Proofs.YtpkpnedcecjlbaaGreatDoor
end
