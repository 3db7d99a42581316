/- The contract of wire.GetMsg. -/
import Derived.Test.YtilkginjppgcoaaRmsg
namespace Go.Proofs.Ytilkginjppgcoaa
open Go.ChangeShapes Go.WideShapes Go.ChangeAt Go.RowKit

/-- How the closure of GetMsg ends. -/
def MsgEnds (R G base : Nat) (w : World) (r : Except Nat MsgN) (e : Ending) (w' : World) : Prop :=
  Kept R G w w' ∧
  match r with
  | .ok m => e = .returned (.tuple #[]) ∧ ∃ (ep : Option Addr) (en ec : Nat) (sp : Option Addr) (mm cc : Nat), w'.heap[G]? = some (.cells (msgCells m (.slice ep en ec) (.slice sp mm cc)) 26 (0, 0)) ∧ Hid (m.es.length = en) ∧ OwnEs base w' ep ec m.es ∧ Hid (m.d.length = mm) ∧ OwnD base w' ep ec m.es sp cc m.d
  | .error x => e = .panicked (given x)
set_option maxRecDepth 20000 in
set_option maxHeartbeats 2000000 in
theorem getMsg1_E (R G : Nat) (x0 x1 x2 x3 x4 x5 x6 x7 x8 x9 x10 x11 : Value) (a : Option Addr) (c : Nat) (l : List Nat) (k : Nat) (w : World) (h : RdAt R w a c l k) (hl : l.length ≤ 140737488355328) (hc : l.length ≤ c) (hz : a = none → c = 0) (hG : w.heap[G]? = some (.cells #[x0, x1, x2, x3, x4, x5, x6, x7, x8, x9, x10, x11] 26 (0, 0))) (hne : G ≠ R) (hbG : ∀ b off, 0 < l.length → a = some ⟨b, off, none⟩ → b ≠ G) :
    Calls Try.prog 20 #[.pointer (some ⟨R, 0, none⟩), .pointer (some ⟨G, 0, none⟩)] w (MsgEnds R G w.heap.size w (wholeE l (msgE l k))) := by
  have HL := hide hl
  have HC := hide hc
  have HZ := hide hz
  have HR := hide h
  have HG := hide hG
  have HB := hide hbG
  have Hlt := hide h.lt
  have HGlt := hide (Array.getElem?_eq_some_iff.1 hG).1
  clear h hl hG hbG hc hz
  go_enter Try.func20, Try.ntmps20
  go_wp2_with fail
  refine (msg_E R a c l k _ (unhide HR) (unhide HL) (unhide HC) (unhide HZ)).mono ?_
  rintro e W1 ⟨hg1, hm1⟩
  have G1 := hide hg1
  cases ht1 : msgE l k with
  | error x =>
    rw [ht1] at hm1
    obtain rfl := hm1
    go_wp2
    refine ⟨rfl, Kept.ofGrown (unhide G1), ?_⟩
    simp only [wholeE]
  | ok p =>
    obtain ⟨m, k2⟩ := p
    rw [ht1] at hm1
    obtain ⟨⟨_, rfl, ep, en, ec, sp, mm, cc, rfl, hen, hoe, hlen, hod⟩, hr1⟩ := hm1
    have q1 := grown_block hg1 (unhide HG) hne
    obtain ⟨c0, c1, c2, c3, c4, c5, c6, c7, c8, c9, c10, c11⟩ := twelve_cells q1
    have fz := box_free q1
    obtain ⟨q6, s7⟩ := twelve_laid (x0 := .int .i64 (m.kd : Int)) (x1 := .int .i64 (m.fr : Int)) (x2 := .int .i64 (m.to : Int)) (x3 := .int .i64 (m.t : Int)) (x4 := .int .i64 (m.ix : Int)) (x5 := .int .i64 (m.lt : Int)) (x6 := .int .i64 (m.cm : Int)) (x7 := .int .i64 (m.hi : Int)) (x8 := .int .i64 (m.ro : Int)) (x9 := .bool ((m.ok : Int) == 1)) (x10 := .slice ep en ec) (x11 := .slice sp mm cc) q1
    have hr2 := hide (hr1.far s7 hne (unhide HB))
    have K2 := hide (kept_new (unhide G1) s7)
    have O2 := hide (hoe.far s7 (unhide HGlt))
    have D2 := hide (hod.far s7 (unhide HGlt))
    have Q6 := hide q6
    clear q1 q6 s7 hr1 hg1 G1 hoe hod
    simp only
    go_wp2_with fail
    generalize ((((((((((((W1.setCell ⟨G, 0, none⟩ (.int .i64 (m.kd : Int))).setCell ⟨G, 1, none⟩ (.int .i64 (m.fr : Int))).setCell ⟨G, 2, none⟩ (.int .i64 (m.to : Int))).setCell ⟨G, 3, none⟩ (.int .i64 (m.t : Int))).setCell ⟨G, 4, none⟩ (.int .i64 (m.ix : Int))).setCell ⟨G, 5, none⟩ (.int .i64 (m.lt : Int))).setCell ⟨G, 6, none⟩ (.int .i64 (m.cm : Int))).setCell ⟨G, 7, none⟩ (.int .i64 (m.hi : Int))).setCell ⟨G, 8, none⟩ (.int .i64 (m.ro : Int))).setCell ⟨G, 9, none⟩ (.bool ((m.ok : Int) == 1))).setCell ⟨G, 10, none⟩ (.slice ep en ec)).setCell ⟨G, 11, none⟩ (.slice sp mm cc)) = W2 at *
    clear c0 c1 c2 c3 c4 c5 c6 c7 c8 c9 c10 c11 fz
    refine (end_E R a c l k2 W2 (unhide hr2)).mono ?_
    rintro e W3 ⟨hg3, ⟨hk, rfl⟩ | ⟨hk, rfl⟩⟩
    · have K3 := hide ((unhide K2).trans (Kept.ofGrown hg3))
      clear hg3
      go_wp2
      refine ⟨rfl, unhide K3, ?_⟩
      simp only [wholeE, if_pos hk]
    · have K3 := hide ((unhide K2).trans (Kept.ofGrown hg3))
      have Q7 := hide (grown_block hg3 (unhide Q6) hne)
      have O3 := hide ((unhide O2).far hg3 (unhide Hlt))
      have D3 := hide ((unhide D2).far hg3 (unhide Hlt))
      clear hg3
      go_wp2
      go_end0
      refine ⟨unhide K3, ?_⟩
      simp only [ht1, wholeE, if_neg hk]
      exact ⟨trivial, ep, en, ec, sp, mm, cc, unhide Q7, hen, unhide O3, hlen, unhide D3⟩
theorem enter_msg (c : Array Value) (w : World) : (callFunc 20 c).run Try.prog w = .ok (.enter 20 c) w := by
  simp [callFunc, go_sem, Try.func20]
  rw [if_neg (by decide +kernel), if_neg (fun h => by cases h)]
/-- What GetMsg answers. -/
def MsgRes (base : Nat) (r : Except Nat MsgN) (w : World) (v : Value) : Prop :=
  match r with
  | .ok m => ∃ (ep : Option Addr) (en ec : Nat) (sp : Option Addr) (mm cc : Nat), v = .tuple #[.agg (msgCells m (.slice ep en ec) (.slice sp mm cc)), .int .i64 0] ∧ Hid (m.es.length = en) ∧ OwnEs base w ep ec m.es ∧ Hid (m.d.length = mm) ∧ OwnB base w sp cc m.d
  | .error x => v = .tuple #[.agg #[.int .i64 0, .int .i64 0, .int .i64 0, .int .i64 0, .int .i64 0, .int .i64 0, .int .i64 0, .int .i64 0, .int .i64 0, .bool false, .slice none 0 0, .slice none 0 0], .int .i64 (x : Int)]
/-- The same, and the data lies apart from the entries'. -/
def MsgResD (base : Nat) (r : Except Nat MsgN) (w : World) (v : Value) : Prop :=
  match r with
  | .ok m => ∃ (ep : Option Addr) (en ec : Nat) (sp : Option Addr) (mm cc : Nat), v = .tuple #[.agg (msgCells m (.slice ep en ec) (.slice sp mm cc)), .int .i64 0] ∧ Hid (m.es.length = en) ∧ OwnEs base w ep ec m.es ∧ Hid (m.d.length = mm) ∧ OwnD base w ep ec m.es sp cc m.d
  | .error x => v = .tuple #[.agg #[.int .i64 0, .int .i64 0, .int .i64 0, .int .i64 0, .int .i64 0, .int .i64 0, .int .i64 0, .int .i64 0, .int .i64 0, .bool false, .slice none 0 0, .slice none 0 0], .int .i64 (x : Int)]
theorem MsgResD.res {base : Nat} {r : Except Nat MsgN} {w : World} {v : Value} (h : MsgResD base r w v) : MsgRes base r w v := by
  cases r with
  | error x => exact h
  | ok m =>
    obtain ⟨ep, en, ec, sp, mm, cc, h1, h2, h3, h4, h5⟩ := h
    exact ⟨ep, en, ec, sp, mm, cc, h1, h2, h3, h4, h5.own⟩
set_option maxRecDepth 20000 in
set_option maxHeartbeats 2000000 in
theorem getMsg_callsD (a : Option Addr) (m c : Nat) (l : List Nat) (w : World) (hm : l.length = m) (hl : l.length ≤ 140737488355328) (hc : l.length ≤ c) (hz : a = none → c = 0) (hb : BytesAt w a l) :
    Calls Try.prog 7 #[.slice a m c] w fun e w' => (∃ v, e = .returned v ∧ MsgResD w.heap.size (wholeE l (msgE l 0)) w' v) ∧ Below w.heap.size w w' := by
  subst hm
  have HB := hide hb
  have HL := hide hl
  have HC := hide hc
  have HZ := hide hz
  clear hb hl hc hz
  have hmf : ∀ (fn : Fn) (first cap : Array Value) (w : World), (Instr.makeFunc fn first cap).run Try.prog w = .ok (.func fn first cap) w := fun _ _ _ _ => rfl
  go_enter Try.func7, Try.ntmps7
  go_wp2_with fail
  have h0 := heap_new w (.cells #[.int .i64 0, .int .i64 0, .int .i64 0, .int .i64 0, .int .i64 0, .int .i64 0, .int .i64 0, .int .i64 0, .int .i64 0, .bool false, .slice none 0 0, .slice none 0 0] 26)
  have h1 := heap_new (w.alloc (.cells #[.int .i64 0, .int .i64 0, .int .i64 0, .int .i64 0, .int .i64 0, .int .i64 0, .int .i64 0, .int .i64 0, .int .i64 0, .bool false, .slice none 0 0, .slice none 0 0] 26)) (.cells #[.int .i64 0, .int .i64 0, .int .i64 0, .int .i64 0, .int .i64 0, .int .i64 0, .int .i64 0, .int .i64 0, .int .i64 0, .bool false, .slice none 0 0, .slice none 0 0] 26)
  have h2 := heap_new ((w.alloc (.cells #[.int .i64 0, .int .i64 0, .int .i64 0, .int .i64 0, .int .i64 0, .int .i64 0, .int .i64 0, .int .i64 0, .int .i64 0, .bool false, .slice none 0 0, .slice none 0 0] 26)).alloc (.cells #[.int .i64 0, .int .i64 0, .int .i64 0, .int .i64 0, .int .i64 0, .int .i64 0, .int .i64 0, .int .i64 0, .int .i64 0, .bool false, .slice none 0 0, .slice none 0 0] 26)) (.cells #[.slice a l.length c, .int .i64 0] 57)
  have k0 := heap_old (.cells #[.slice a l.length c, .int .i64 0] 57) (heap_old (.cells #[.int .i64 0, .int .i64 0, .int .i64 0, .int .i64 0, .int .i64 0, .int .i64 0, .int .i64 0, .int .i64 0, .int .i64 0, .bool false, .slice none 0 0, .slice none 0 0] 26) h0)
  have k1 := heap_old (.cells #[.slice a l.length c, .int .i64 0] 57) h1
  rw [size_alloc] at k1
  rw [size_alloc, size_alloc] at h2
  have hbl : Below w.heap.size w (((w.alloc (.cells #[.int .i64 0, .int .i64 0, .int .i64 0, .int .i64 0, .int .i64 0, .int .i64 0, .int .i64 0, .int .i64 0, .int .i64 0, .bool false, .slice none 0 0, .slice none 0 0] 26)).alloc (.cells #[.int .i64 0, .int .i64 0, .int .i64 0, .int .i64 0, .int .i64 0, .int .i64 0, .int .i64 0, .int .i64 0, .int .i64 0, .bool false, .slice none 0 0, .slice none 0 0] 26)).alloc (.cells #[.slice a l.length c, .int .i64 0] 57)) :=
    (((Below.refl _ _).alloc (Nat.le_refl _) _).alloc (by rw [size_alloc]; omega) _).alloc (by rw [size_alloc, size_alloc]; omega) _
  have hsz : (((w.alloc (.cells #[.int .i64 0, .int .i64 0, .int .i64 0, .int .i64 0, .int .i64 0, .int .i64 0, .int .i64 0, .int .i64 0, .int .i64 0, .bool false, .slice none 0 0, .slice none 0 0] 26)).alloc (.cells #[.int .i64 0, .int .i64 0, .int .i64 0, .int .i64 0, .int .i64 0, .int .i64 0, .int .i64 0, .int .i64 0, .int .i64 0, .bool false, .slice none 0 0, .slice none 0 0] 26)).alloc (.cells #[.slice a l.length c, .int .i64 0] 57)).heap.size = w.heap.size + 3 := by rw [size_alloc, size_alloc, size_alloc]
  generalize ((w.alloc (.cells #[.int .i64 0, .int .i64 0, .int .i64 0, .int .i64 0, .int .i64 0, .int .i64 0, .int .i64 0, .int .i64 0, .int .i64 0, .bool false, .slice none 0 0, .slice none 0 0] 26)).alloc (.cells #[.int .i64 0, .int .i64 0, .int .i64 0, .int .i64 0, .int .i64 0, .int .i64 0, .int .i64 0, .int .i64 0, .int .i64 0, .bool false, .slice none 0 0, .slice none 0 0] 26)).alloc (.cells #[.slice a l.length c, .int .i64 0] 57) = W at *
  clear h0 h1
  have hbl2 : Below w.heap.size w (W.alloc (.cells #[.int .i64 0] 27)) := hbl.alloc hbl.size _
  have hE := heap_new W (.cells #[.int .i64 0] 27)
  have hr : RdAt (w.heap.size + 1 + 1) (W.alloc (.cells #[.int .i64 0] 27)) a c l 0 := rd_new (unhide HB) hbl2 (by omega) (heap_old _ h2) (Nat.zero_le _)
  have hG := heap_old (.cells #[.int .i64 0] 27) k1
  have hres := heap_old (.cells #[.int .i64 0] 27) k0
  refine (caught_calls 20 _ W enter_msg _ (getMsg1_E (w.heap.size + 1 + 1) (w.heap.size + 1) _ _ _ _ _ _ _ _ _ _ _ _ a c l 0 _ hr (unhide HL) (unhide HC) (unhide HZ) hG (by omega) (fun b off h0 e => by have := block_lt (unhide HB) h0 b off e; omega)) ?_ ?_).mono ?_
  · rintro e w1 ⟨hk1, _⟩
    exact (hk1.block _ (by rw [size_alloc]; omega) (by omega) (by omega)).trans hE
  · rintro e w1 ⟨_, hm1⟩
    cases ht : wholeE l (msgE l 0) with
    | error x => rw [ht] at hm1; exact .inr ⟨x, hm1⟩
    | ok p => rw [ht] at hm1; exact .inl hm1.1
  · rintro e w2 ⟨e1, w1, ⟨hk1, hm1⟩, hg, he⟩
    have HF := hide ((hbl2.trans (hk1.below (by rw [size_alloc]; omega) (by omega) (by omega))).trans ((Below.refl w.heap.size w1).grown hg (by have := hk1.size; rw [size_alloc] at this; omega) (fun j e => by have := Option.some.inj e; omega)))
    have r2 := grown_block hg ((hk1.block _ (by rw [size_alloc]; omega) (by omega) (by omega)).trans hres) (by omega)
    obtain ⟨p0, p1, p2, p3, p4, p5, p6, p7, p8, p9, p10, p11⟩ := twelve_cells r2
    have fz := box_free r2
    have HR2 := hide r2
    have hs4 := hide (show (W.alloc (.cells #[.int .i64 0] 27)).heap.size = w.heap.size + 4 by rw [size_alloc]; omega)
    clear r2 hE hr hres hbl2 hbl h2 k0 k1 hG
    cases ht : wholeE l (msgE l 0) with
    | error x =>
      rw [ht] at hm1
      obtain rfl := hm1
      obtain ⟨y, hy, rfl⟩ := he.resolve_left (fun h => by cases h.1)
      obtain rfl := given_inj hy
      have hx0 : ¬ (x : Int) = 0 := by have := wholeE_pos ht (fun y hy => msgE_pos hy); omega
      clear hy he hk1 hg
      go_wp2_with fail
      obtain ⟨q6, s7⟩ := twelve_laid (x0 := .int .i64 0) (x1 := .int .i64 0) (x2 := .int .i64 0) (x3 := .int .i64 0) (x4 := .int .i64 0) (x5 := .int .i64 0) (x6 := .int .i64 0) (x7 := .int .i64 0) (x8 := .int .i64 0) (x9 := .bool false) (x10 := .slice none 0 0) (x11 := .slice none 0 0) (unhide HR2)
      obtain ⟨z0, z1, z2, z3, z4, z5, z6, z7, z8, z9, z10, z11⟩ := twelve_cells q6
      refine bodyPost_ret (v := .tuple #[.agg #[.int .i64 0, .int .i64 0, .int .i64 0, .int .i64 0, .int .i64 0, .int .i64 0, .int .i64 0, .int .i64 0, .int .i64 0, .bool false, .slice none 0 0, .slice none 0 0], .int .i64 (x : Int)]) (by simp [results, Try.results7, go_sem, z0, z1, z2, z3, z4, z5, z6, z7, z8, z9, z10, z11]) rfl ?_
      refine ⟨⟨_, rfl, ?_⟩, (unhide HF).grown s7 (unhide HF).size (fun j e => Nat.le_of_eq (Option.some.inj e))⟩
      rw [ht]
      exact rfl
    | ok m =>
      rw [ht] at hm1
      obtain ⟨rfl, ep, en, ec, sp, mm, cc, hgot, hen, hoe, hlen, hod⟩ := hm1
      obtain ⟨_, rfl⟩ := he.resolve_right (fun ⟨_, h, _⟩ => by cases h)
      obtain ⟨g0, g1, g2, g3, g4, g5, g6, g7, g8, g9, g10, g11⟩ := twelve_cells (grown_block hg hgot (by omega))
      have O2 := hide (hoe.far hg (by rw [size_alloc]; omega))
      have D2 := hide (hod.far hg (by rw [size_alloc]; omega))
      clear he hk1 hg hgot hoe hod
      go_wp2_with fail
      obtain ⟨q6, s7⟩ := twelve_laid (x0 := .int .i64 (m.kd : Int)) (x1 := .int .i64 (m.fr : Int)) (x2 := .int .i64 (m.to : Int)) (x3 := .int .i64 (m.t : Int)) (x4 := .int .i64 (m.ix : Int)) (x5 := .int .i64 (m.lt : Int)) (x6 := .int .i64 (m.cm : Int)) (x7 := .int .i64 (m.hi : Int)) (x8 := .int .i64 (m.ro : Int)) (x9 := .bool ((m.ok : Int) == 1)) (x10 := .slice ep en ec) (x11 := .slice sp mm cc) (unhide HR2)
      obtain ⟨z0, z1, z2, z3, z4, z5, z6, z7, z8, z9, z10, z11⟩ := twelve_cells q6
      refine bodyPost_ret (v := .tuple #[.agg (msgCells m (.slice ep en ec) (.slice sp mm cc)), .int .i64 0]) (by simp [results, Try.results7, go_sem, z0, z1, z2, z3, z4, z5, z6, z7, z8, z9, z10, z11]) rfl ?_
      refine ⟨⟨_, rfl, ?_⟩, (unhide HF).grown s7 (unhide HF).size (fun j e => Nat.le_of_eq (Option.some.inj e))⟩
      rw [ht]
      exact ⟨ep, en, ec, sp, mm, cc, rfl, hen, ((unhide O2).far s7 (by have := unhide hs4; omega)).mono (by have := unhide hs4; omega), hlen, ((unhide D2).far s7 (by have := unhide hs4; omega)).mono (by have := unhide hs4; omega)⟩
theorem getMsg_calls (a : Option Addr) (m c : Nat) (l : List Nat) (w : World) (hm : l.length = m) (hl : l.length ≤ 140737488355328) (hc : l.length ≤ c) (hz : a = none → c = 0) (hb : BytesAt w a l) :
    Calls Try.prog 7 #[.slice a m c] w fun e w' => (∃ v, e = .returned v ∧ MsgRes w.heap.size (wholeE l (msgE l 0)) w' v) ∧ Below w.heap.size w w' :=
  (getMsg_callsD a m c l w hm hl hc hz hb).mono fun _ _ ⟨⟨v, h1, h2⟩, h3⟩ => ⟨⟨v, h1, h2.res⟩, h3⟩
end Go.Proofs.Ytilkginjppgcoaa
