/- The contract of wire.GetEntry. -/
import Derived.Test.YtijcpmbfhfppmaaGreatDoorRenty
namespace Go.Proofs.YtijcpmbfhfppmaaGreatDoor
open Go.ChangeShapes Go.WideShapes Go.ChangeAt Go.RowKit

/-- How the closure of GetEntry ends. -/
def EntEnds (R G base : Nat) (w : World) (r : Except Nat (Nat × Nat × Nat × List Nat)) (e : Ending) (w' : World) : Prop :=
  Kept R G w w' ∧
  match r with
  | .ok p => e = .returned (.tuple #[]) ∧ ∃ sp m c, w'.heap[G]? = some (.cells #[.int .i64 (p.1 : Int), .int .i64 (p.2.1 : Int), .int .i64 (p.2.2.1 : Int), .slice sp m c] 60 (0, 0)) ∧ Hid (p.2.2.2.length = m) ∧ OwnB base w' sp c p.2.2.2
  | .error x => e = .panicked (given x)
set_option maxHeartbeats 1000000 in
theorem getEntry1_E (R G : Nat) (x y z u : Value) (a : Option Addr) (c : Nat) (l : List Nat) (k : Nat) (w : World) (h : RdAt R w a c l k) (hl : l.length ≤ 140737488355328) (hc : l.length ≤ c) (hz : a = none → c = 0) (hG : w.heap[G]? = some (.cells #[x, y, z, u] 60 (0, 0))) (hne : G ≠ R) (hbG : ∀ b off, 0 < l.length → a = some ⟨b, off, none⟩ → b ≠ G) :
    Calls Tryz.prog 215 #[.pointer (some ⟨R, 0, none⟩), .pointer (some ⟨G, 0, none⟩)] w (EntEnds R G w.heap.size w (wholeE l (entryE l k))) := by
  have HL := hide hl
  have HC := hide hc
  have HZ := hide hz
  have HR := hide h
  have HG := hide hG
  have HB := hide hbG
  have Hlt := hide h.lt
  have HGlt := hide (Array.getElem?_eq_some_iff.1 hG).1
  clear h hl hG hbG hc hz
  go_enter Tryz.func215, Tryz.ntmps215
  go_wp2_with fail
  refine (entry_E R a c l k _ (unhide HR) (unhide HL) (unhide HC) (unhide HZ)).mono ?_
  rintro e W1 ⟨hg1, hm1⟩
  have G1 := hide hg1
  cases ht1 : entryE l k with
  | error x =>
    rw [ht1] at hm1
    obtain rfl := hm1
    go_wp2
    refine ⟨rfl, Kept.ofGrown (unhide G1), ?_⟩
    simp only [wholeE]
  | ok p =>
    obtain ⟨⟨kd, t, i, d⟩, k2⟩ := p
    rw [ht1] at hm1
    obtain ⟨⟨_, rfl, sp, m, cc, rfl, hlen, ho1⟩, hr1⟩ := hm1
    have q1 := grown_block hg1 (unhide HG) hne
    obtain ⟨⟨c0, c1, c2, c3⟩, f0, f1, f2, f3⟩ := quad_cells q1
    obtain ⟨q6, s7⟩ := quad_laid (x := .int .i64 (kd : Int)) (y := .int .i64 (t : Int)) (z := .int .i64 (i : Int)) (u := .slice sp m cc) q1
    have hr2 := hide (hr1.far s7 hne (unhide HB))
    have K2 := hide (kept_new (unhide G1) s7)
    have O2 := hide (ho1.far s7 (unhide HGlt))
    have Q6 := hide q6
    clear q1 q6 s7 hr1 hg1 G1 ho1
    simp only
    go_wp2_with fail
    generalize (((W1.setCell ⟨G, 0, none⟩ (.int .i64 (kd : Int))).setCell ⟨G, 1, none⟩ (.int .i64 (t : Int))).setCell ⟨G, 2, none⟩ (.int .i64 (i : Int))).setCell ⟨G, 3, none⟩ (.slice sp m cc) = W2 at *
    clear c0 c1 c2 c3 f0 f1 f2 f3
    refine (end_E R a c l k2 W2 (unhide hr2)).mono ?_
    rintro e W3 ⟨hg3, ⟨hk, rfl⟩ | ⟨hk, rfl⟩⟩
    · have K3 := hide ((unhide K2).trans (Kept.ofGrown hg3))
      clear hg3
      go_wp2
      refine ⟨rfl, unhide K3, ?_⟩
      simp only [wholeE, if_pos hk]
    · have K3 := hide ((unhide K2).trans (Kept.ofGrown hg3))
      have Q7 := hide (grown_block hg3 (unhide Q6) hne)
      have O3 := hide ((unhide O2).far hg3 (unhide Hlt))
      clear hg3
      go_wp2
      go_end0
      refine ⟨unhide K3, ?_⟩
      simp only [ht1, wholeE, if_neg hk]
      exact ⟨trivial, sp, m, cc, unhide Q7, hlen, unhide O3⟩
theorem enter_entry (c : Array Value) (w : World) : (callFunc 215 c).run Tryz.prog w = .ok (.enter 215 c) w := by
  simp [callFunc, go_sem, Tryz.func215]
  rw [if_neg (by decide +kernel), if_neg (fun h => by cases h)]
/-- What GetEntry answers. -/
def EntRes (base : Nat) (r : Except Nat (Nat × Nat × Nat × List Nat)) (w : World) (v : Value) : Prop :=
  match r with
  | .ok p => ∃ sp m c, v = .tuple #[entVal (p.1 : Int) (p.2.1 : Int) (p.2.2.1 : Int) sp m c, .int .i64 0] ∧ Hid (p.2.2.2.length = m) ∧ OwnB base w sp c p.2.2.2
  | .error x => v = .tuple #[entVal 0 0 0 none 0 0, .int .i64 (x : Int)]
set_option maxHeartbeats 1000000 in
theorem getEntry_calls (a : Option Addr) (m c : Nat) (l : List Nat) (w : World) (hm : l.length = m) (hl : l.length ≤ 140737488355328) (hc : l.length ≤ c) (hz : a = none → c = 0) (hb : BytesAt w a l) :
    Calls Tryz.prog 187 #[.slice a m c] w fun e w' => (∃ v, e = .returned v ∧ EntRes w.heap.size (wholeE l (entryE l 0)) w' v) ∧ Below w.heap.size w w' := by
  subst hm
  have HB := hide hb
  have HL := hide hl
  have HC := hide hc
  have HZ := hide hz
  clear hb hl hc hz
  have hmf : ∀ (fn : Fn) (first cap : Array Value) (w : World), (Instr.makeFunc fn first cap).run Tryz.prog w = .ok (.func fn first cap) w := fun _ _ _ _ => rfl
  go_enter Tryz.func187, Tryz.ntmps187
  go_wp2_with fail
  have h0 := heap_new w (.cells #[.int .i64 0, .int .i64 0, .int .i64 0, .slice none 0 0] 60)
  have h1 := heap_new (w.alloc (.cells #[.int .i64 0, .int .i64 0, .int .i64 0, .slice none 0 0] 60)) (.cells #[.int .i64 0, .int .i64 0, .int .i64 0, .slice none 0 0] 60)
  have h2 := heap_new ((w.alloc (.cells #[.int .i64 0, .int .i64 0, .int .i64 0, .slice none 0 0] 60)).alloc (.cells #[.int .i64 0, .int .i64 0, .int .i64 0, .slice none 0 0] 60)) (.cells #[.slice a l.length c, .int .i64 0] 242)
  have k0 := heap_old (.cells #[.slice a l.length c, .int .i64 0] 242) (heap_old (.cells #[.int .i64 0, .int .i64 0, .int .i64 0, .slice none 0 0] 60) h0)
  have k1 := heap_old (.cells #[.slice a l.length c, .int .i64 0] 242) h1
  rw [size_alloc] at k1
  rw [size_alloc, size_alloc] at h2
  have hbl : Below w.heap.size w (((w.alloc (.cells #[.int .i64 0, .int .i64 0, .int .i64 0, .slice none 0 0] 60)).alloc (.cells #[.int .i64 0, .int .i64 0, .int .i64 0, .slice none 0 0] 60)).alloc (.cells #[.slice a l.length c, .int .i64 0] 242)) :=
    (((Below.refl _ _).alloc (Nat.le_refl _) _).alloc (by rw [size_alloc]; omega) _).alloc (by rw [size_alloc, size_alloc]; omega) _
  have hsz : (((w.alloc (.cells #[.int .i64 0, .int .i64 0, .int .i64 0, .slice none 0 0] 60)).alloc (.cells #[.int .i64 0, .int .i64 0, .int .i64 0, .slice none 0 0] 60)).alloc (.cells #[.slice a l.length c, .int .i64 0] 242)).heap.size = w.heap.size + 3 := by rw [size_alloc, size_alloc, size_alloc]
  generalize ((w.alloc (.cells #[.int .i64 0, .int .i64 0, .int .i64 0, .slice none 0 0] 60)).alloc (.cells #[.int .i64 0, .int .i64 0, .int .i64 0, .slice none 0 0] 60)).alloc (.cells #[.slice a l.length c, .int .i64 0] 242) = W at *
  clear h0 h1
  have hbl2 : Below w.heap.size w (W.alloc (.cells #[.int .i64 0] 49)) := hbl.alloc hbl.size _
  have hE := heap_new W (.cells #[.int .i64 0] 49)
  have hr : RdAt (w.heap.size + 1 + 1) (W.alloc (.cells #[.int .i64 0] 49)) a c l 0 := rd_new (unhide HB) hbl2 (by omega) (heap_old _ h2) (Nat.zero_le _)
  have hG := heap_old (.cells #[.int .i64 0] 49) k1
  have hres := heap_old (.cells #[.int .i64 0] 49) k0
  refine (caught_calls 215 _ W enter_entry _ (getEntry1_E (w.heap.size + 1 + 1) (w.heap.size + 1) _ _ _ _ a c l 0 _ hr (unhide HL) (unhide HC) (unhide HZ) hG (by omega) (fun b off h0 e => by have := block_lt (unhide HB) h0 b off e; omega)) ?_ ?_).mono ?_
  · rintro e w1 ⟨hk1, _⟩
    exact (hk1.block _ (by rw [size_alloc]; omega) (by omega) (by omega)).trans hE
  · rintro e w1 ⟨_, hm1⟩
    cases ht : wholeE l (entryE l 0) with
    | error x => rw [ht] at hm1; exact .inr ⟨x, hm1⟩
    | ok p => rw [ht] at hm1; exact .inl hm1.1
  · rintro e w2 ⟨e1, w1, ⟨hk1, hm1⟩, hg, he⟩
    have HF := hide ((hbl2.trans (hk1.below (by rw [size_alloc]; omega) (by omega) (by omega))).trans ((Below.refl w.heap.size w1).grown hg (by have := hk1.size; rw [size_alloc] at this; omega) (fun j e => by have := Option.some.inj e; omega)))
    have r2 := grown_block hg ((hk1.block _ (by rw [size_alloc]; omega) (by omega) (by omega)).trans hres) (by omega)
    obtain ⟨⟨p0, p1, p2, p3⟩, f0, f1, f2, f3⟩ := quad_cells r2
    have HR2 := hide r2
    have hs4 := hide (show (W.alloc (.cells #[.int .i64 0] 49)).heap.size = w.heap.size + 4 by rw [size_alloc]; omega)
    clear r2 hE hr hres hbl2 hbl h2 k0 k1 hG
    cases ht : wholeE l (entryE l 0) with
    | error x =>
      rw [ht] at hm1
      obtain rfl := hm1
      obtain ⟨y, hy, rfl⟩ := he.resolve_left (fun h => by cases h.1)
      obtain rfl := given_inj hy
      have hx0 : ¬ (x : Int) = 0 := by have := wholeE_pos ht (fun y hy => entryE_pos hy); omega
      clear hy he hk1 hg
      go_wp2_with fail
      obtain ⟨q6, s7⟩ := quad_laid (x := .int .i64 0) (y := .int .i64 0) (z := .int .i64 0) (u := .slice none 0 0) (unhide HR2)
      obtain ⟨⟨z0, z1, z2, z3⟩, _⟩ := quad_cells q6
      refine bodyPost_ret (v := .tuple #[entVal 0 0 0 none 0 0, .int .i64 (x : Int)]) (by simp [results, Tryz.results187, go_sem, z0, z1, z2, z3]) rfl ?_
      refine ⟨⟨_, rfl, ?_⟩, (unhide HF).grown s7 (unhide HF).size (fun j e => Nat.le_of_eq (Option.some.inj e))⟩
      rw [ht]
      exact rfl
    | ok p =>
      rw [ht] at hm1
      obtain ⟨rfl, sp, m, cc, hgot, hlen, ho⟩ := hm1
      obtain ⟨_, rfl⟩ := he.resolve_right (fun ⟨_, h, _⟩ => by cases h)
      obtain ⟨⟨g0, g1, g2, g3⟩, _⟩ := quad_cells (grown_block hg hgot (by omega))
      have O2 := hide (ho.far hg (by rw [size_alloc]; omega))
      clear he hk1 hg hgot ho
      go_wp2_with fail
      obtain ⟨q6, s7⟩ := quad_laid (x := .int .i64 (p.1 : Int)) (y := .int .i64 (p.2.1 : Int)) (z := .int .i64 (p.2.2.1 : Int)) (u := .slice sp m cc) (unhide HR2)
      obtain ⟨⟨z0, z1, z2, z3⟩, _⟩ := quad_cells q6
      refine bodyPost_ret (v := .tuple #[entVal (p.1 : Int) (p.2.1 : Int) (p.2.2.1 : Int) sp m cc, .int .i64 0]) (by simp [results, Tryz.results187, go_sem, z0, z1, z2, z3]) rfl ?_
      refine ⟨⟨_, rfl, ?_⟩, (unhide HF).grown s7 (unhide HF).size (fun j e => Nat.le_of_eq (Option.some.inj e))⟩
      rw [ht]
      exact ⟨sp, m, cc, rfl, hlen, ((unhide O2).far s7 (by have := unhide hs4; omega)).mono (by have := unhide hs4; omega)⟩
end Go.Proofs.YtijcpmbfhfppmaaGreatDoor
