/- The contract of wire.GetEntry. -/
import Derived.Test.YtijcpmbfhfppmaaGreatDoorB07
import Derived.Test.YtijcpmbfhfppmaaGreatDoorB03
import Derived.Test.YtijcpmbfhfppmaaGreatDoorB12
import Derived.Laws.ResultCell
section
namespace Go.Proofs.YtijcpmbfhfppmaaGreatDoor
open Go.ChangeShapes Go.WideShapes Go.ChangeAt Go.RowKit

/-- How the closure of GetEntry ends. -/
def EntEnds (R G base : Nat) (w : World) (r : Except Nat (Nat × Nat × Nat × List Nat)) (e : Ending) (w' : World) : Prop :=
  Kept R G w w' ∧
  match r with
  | .ok p => e = .returned (.tuple #[]) ∧ ∃ sp m c, w'.heap[G]? = some (.cells #[.int .i64 (p.1 : Int), .int .i64 (p.2.1 : Int), .int .i64 (p.2.2.1 : Int), .slice sp m c] 60 (0, 0)) ∧ Hid (p.2.2.2.length = m) ∧ OwnB base w' sp c p.2.2.2
  | .error x => e = .panicked (given x)
set_option maxHeartbeats 1000000 in
theorem getEntry1_E (R G : Nat) (x y z u : Value) (a : Option Addr) (c : Nat) (l : List Nat) (k : Nat) (w : World) (h : RdAt R w a c l k) (hl : l.length ≤ 140737488355328) (hc : l.length ≤ c) (hz : a = none → c = 0) (hG : w.heap[G]? = some (.cells #[x, y, z, u] 60 (0, 0))) (hne : G ≠ R) (hbG : ∀ b off, 0 < l.length → a = some ⟨b, off, none⟩ → b ≠ G) :
    Calls Tryz.prog 215 #[.pointer (some ⟨R, 0, none⟩), .pointer (some ⟨G, 0, none⟩)] w (EntEnds R G w.heap.size w (wholeE l (entryE l k))) := by
  have HL := hide hl
  have HC := hide hc
  have HZ := hide hz
  have HR := hide h
  have HG := hide hG
  have HB := hide hbG
  have Hlt := hide h.lt
  have HGlt := hide (Array.getElem?_eq_some_iff.1 hG).1
  clear h hl hG hbG hc hz
  go_enter Tryz.func215, Tryz.ntmps215
  go_wp2_with fail
  refine (entry_E R a c l k _ (unhide HR) (unhide HL) (unhide HC) (unhide HZ)).mono ?_
  rintro e W1 ⟨hg1, hm1⟩
  have G1 := hide hg1
  cases ht1 : entryE l k with
  | error x =>
    rw [ht1] at hm1
    obtain rfl := hm1
    go_wp2
    refine ⟨rfl, Kept.ofGrown (unhide G1), ?_⟩
    simp only [wholeE]
  | ok p =>
    obtain ⟨⟨kd, t, i, d⟩, k2⟩ := p
    rw [ht1] at hm1
    obtain ⟨⟨_, rfl, sp, m, cc, rfl, hlen, ho1⟩, hr1⟩ := hm1
    have q1 := grown_block hg1 (unhide HG) hne
    obtain ⟨⟨c0, c1, c2, c3⟩, f0, f1, f2, f3⟩ := quad_cells q1
    obtain ⟨q6, s7⟩ := quad_laid (x := .int .i64 (kd : Int)) (y := .int .i64 (t : Int)) (z := .int .i64 (i : Int)) (u := .slice sp m cc) q1
    have hr2 := hide (hr1.far s7 hne (unhide HB))
    have K2 := hide (kept_new (unhide G1) s7)
    have O2 := hide (ho1.far s7 (unhide HGlt))
    have Q6 := hide q6
    clear q1 q6 s7 hr1 hg1 G1 ho1
    simp only
    go_wp2_with fail
    generalize (((W1.setCell ⟨G, 0, none⟩ (.int .i64 (kd : Int))).setCell ⟨G, 1, none⟩ (.int .i64 (t : Int))).setCell ⟨G, 2, none⟩ (.int .i64 (i : Int))).setCell ⟨G, 3, none⟩ (.slice sp m cc) = W2 at *
    clear c0 c1 c2 c3 f0 f1 f2 f3
    refine (end_E R a c l k2 W2 (unhide hr2)).mono ?_
    rintro e W3 ⟨hg3, ⟨hk, rfl⟩ | ⟨hk, rfl⟩⟩
    · have K3 := hide ((unhide K2).trans (Kept.ofGrown hg3))
      clear hg3
      go_wp2
      refine ⟨rfl, unhide K3, ?_⟩
      simp only [wholeE, if_pos hk]
    · have K3 := hide ((unhide K2).trans (Kept.ofGrown hg3))
      have Q7 := hide (grown_block hg3 (unhide Q6) hne)
      have O3 := hide ((unhide O2).far hg3 (unhide Hlt))
      clear hg3
      go_wp2
      go_end0
      refine ⟨unhide K3, ?_⟩
      simp only [ht1, wholeE, if_neg hk]
      exact ⟨trivial, sp, m, cc, unhide Q7, hlen, unhide O3⟩
theorem enter_entry (c : Array Value) (w : World) : (callFunc 215 c).run Tryz.prog w = .ok (.enter 215 c) w := by
  simp [callFunc, go_sem, Tryz.func215]
  rw [if_neg (by decide +kernel), if_neg (fun h => by cases h)]
/-- What GetEntry answers. -/
def EntRes (base : Nat) (r : Except Nat (Nat × Nat × Nat × List Nat)) (w : World) (v : Value) : Prop :=
  match r with
  | .ok p => ∃ sp m c, v = .tuple #[entVal (p.1 : Int) (p.2.1 : Int) (p.2.2.1 : Int) sp m c, .int .i64 0] ∧ Hid (p.2.2.2.length = m) ∧ OwnB base w sp c p.2.2.2
  | .error x => v = .tuple #[entVal 0 0 0 none 0 0, .int .i64 (x : Int)]
set_option maxHeartbeats 1000000 in
theorem getEntry_calls (a : Option Addr) (m c : Nat) (l : List Nat) (w : World) (hm : l.length = m) (hl : l.length ≤ 140737488355328) (hc : l.length ≤ c) (hz : a = none → c = 0) (hb : BytesAt w a l) :
    Calls Tryz.prog 187 #[.slice a m c] w fun e w' => (∃ v, e = .returned v ∧ EntRes w.heap.size (wholeE l (entryE l 0)) w' v) ∧ Below w.heap.size w w' := by
  subst hm
  have HB := hide hb
  have HL := hide hl
  have HC := hide hc
  have HZ := hide hz
  clear hb hl hc hz
  have hmf : ∀ (fn : Fn) (first cap : Array Value) (w : World), (Instr.makeFunc fn first cap).run Tryz.prog w = .ok (.func fn first cap) w := fun _ _ _ _ => rfl
  go_enter Tryz.func187, Tryz.ntmps187
  go_wp2_with fail
  have h0 := heap_new w (.cells #[.int .i64 0, .int .i64 0, .int .i64 0, .slice none 0 0] 60)
  have h1 := heap_new (w.alloc (.cells #[.int .i64 0, .int .i64 0, .int .i64 0, .slice none 0 0] 60)) (.cells #[.int .i64 0, .int .i64 0, .int .i64 0, .slice none 0 0] 60)
  have h2 := heap_new ((w.alloc (.cells #[.int .i64 0, .int .i64 0, .int .i64 0, .slice none 0 0] 60)).alloc (.cells #[.int .i64 0, .int .i64 0, .int .i64 0, .slice none 0 0] 60)) (.cells #[.slice a l.length c, .int .i64 0] 242)
  have k0 := heap_old (.cells #[.slice a l.length c, .int .i64 0] 242) (heap_old (.cells #[.int .i64 0, .int .i64 0, .int .i64 0, .slice none 0 0] 60) h0)
  have k1 := heap_old (.cells #[.slice a l.length c, .int .i64 0] 242) h1
  rw [size_alloc] at k1
  rw [size_alloc, size_alloc] at h2
  have hbl : Below w.heap.size w (((w.alloc (.cells #[.int .i64 0, .int .i64 0, .int .i64 0, .slice none 0 0] 60)).alloc (.cells #[.int .i64 0, .int .i64 0, .int .i64 0, .slice none 0 0] 60)).alloc (.cells #[.slice a l.length c, .int .i64 0] 242)) :=
    (((Below.refl _ _).alloc (Nat.le_refl _) _).alloc (by rw [size_alloc]; omega) _).alloc (by rw [size_alloc, size_alloc]; omega) _
  have hsz : (((w.alloc (.cells #[.int .i64 0, .int .i64 0, .int .i64 0, .slice none 0 0] 60)).alloc (.cells #[.int .i64 0, .int .i64 0, .int .i64 0, .slice none 0 0] 60)).alloc (.cells #[.slice a l.length c, .int .i64 0] 242)).heap.size = w.heap.size + 3 := by rw [size_alloc, size_alloc, size_alloc]
  generalize ((w.alloc (.cells #[.int .i64 0, .int .i64 0, .int .i64 0, .slice none 0 0] 60)).alloc (.cells #[.int .i64 0, .int .i64 0, .int .i64 0, .slice none 0 0] 60)).alloc (.cells #[.slice a l.length c, .int .i64 0] 242) = W at *
  clear h0 h1
  have hbl2 : Below w.heap.size w (W.alloc (.cells #[.int .i64 0] 49)) := hbl.alloc hbl.size _
  have hE := heap_new W (.cells #[.int .i64 0] 49)
  have hr : RdAt (w.heap.size + 1 + 1) (W.alloc (.cells #[.int .i64 0] 49)) a c l 0 := rd_new (unhide HB) hbl2 (by omega) (heap_old _ h2) (Nat.zero_le _)
  have hG := heap_old (.cells #[.int .i64 0] 49) k1
  have hres := heap_old (.cells #[.int .i64 0] 49) k0
  refine (caught_calls 215 _ W enter_entry _ (getEntry1_E (w.heap.size + 1 + 1) (w.heap.size + 1) _ _ _ _ a c l 0 _ hr (unhide HL) (unhide HC) (unhide HZ) hG (by omega) (fun b off h0 e => by have := block_lt (unhide HB) h0 b off e; omega)) ?_ ?_).mono ?_
  · rintro e w1 ⟨hk1, _⟩
    exact (hk1.block _ (by rw [size_alloc]; omega) (by omega) (by omega)).trans hE
  · rintro e w1 ⟨_, hm1⟩
    cases ht : wholeE l (entryE l 0) with
    | error x => rw [ht] at hm1; exact .inr ⟨x, hm1⟩
    | ok p => rw [ht] at hm1; exact .inl hm1.1
  · rintro e w2 ⟨e1, w1, ⟨hk1, hm1⟩, hg, he⟩
    have HF := hide ((hbl2.trans (hk1.below (by rw [size_alloc]; omega) (by omega) (by omega))).trans ((Below.refl w.heap.size w1).grown hg (by have := hk1.size; rw [size_alloc] at this; omega) (fun j e => by have := Option.some.inj e; omega)))
    have r2 := grown_block hg ((hk1.block _ (by rw [size_alloc]; omega) (by omega) (by omega)).trans hres) (by omega)
    obtain ⟨⟨p0, p1, p2, p3⟩, f0, f1, f2, f3⟩ := quad_cells r2
    have HR2 := hide r2
    have hs4 := hide (show (W.alloc (.cells #[.int .i64 0] 49)).heap.size = w.heap.size + 4 by rw [size_alloc]; omega)
    clear r2 hE hr hres hbl2 hbl h2 k0 k1 hG
    cases ht : wholeE l (entryE l 0) with
    | error x =>
      rw [ht] at hm1
      obtain rfl := hm1
      obtain ⟨y, hy, rfl⟩ := he.resolve_left (fun h => by cases h.1)
      obtain rfl := given_inj hy
      have hx0 : ¬ (x : Int) = 0 := by have := wholeE_pos ht (fun y hy => entryE_pos hy); omega
      clear hy he hk1 hg
      go_wp2_with fail
      obtain ⟨q6, s7⟩ := quad_laid (x := .int .i64 0) (y := .int .i64 0) (z := .int .i64 0) (u := .slice none 0 0) (unhide HR2)
      obtain ⟨⟨z0, z1, z2, z3⟩, _⟩ := quad_cells q6
      refine bodyPost_ret (v := .tuple #[entVal 0 0 0 none 0 0, .int .i64 (x : Int)]) (by simp [results, Tryz.results187, go_sem, z0, z1, z2, z3]) rfl ?_
      refine ⟨⟨_, rfl, ?_⟩, (unhide HF).grown s7 (unhide HF).size (fun j e => Nat.le_of_eq (Option.some.inj e))⟩
      rw [ht]
      exact rfl
    | ok p =>
      rw [ht] at hm1
      obtain ⟨rfl, sp, m, cc, hgot, hlen, ho⟩ := hm1
      obtain ⟨_, rfl⟩ := he.resolve_right (fun ⟨_, h, _⟩ => by cases h)
      obtain ⟨⟨g0, g1, g2, g3⟩, _⟩ := quad_cells (grown_block hg hgot (by omega))
      have O2 := hide (ho.far hg (by rw [size_alloc]; omega))
      clear he hk1 hg hgot ho
      go_wp2_with fail
      obtain ⟨q6, s7⟩ := quad_laid (x := .int .i64 (p.1 : Int)) (y := .int .i64 (p.2.1 : Int)) (z := .int .i64 (p.2.2.1 : Int)) (u := .slice sp m cc) (unhide HR2)
      obtain ⟨⟨z0, z1, z2, z3⟩, _⟩ := quad_cells q6
      refine bodyPost_ret (v := .tuple #[entVal (p.1 : Int) (p.2.1 : Int) (p.2.2.1 : Int) sp m cc, .int .i64 0]) (by simp [results, Tryz.results187, go_sem, z0, z1, z2, z3]) rfl ?_
      refine ⟨⟨_, rfl, ?_⟩, (unhide HF).grown s7 (unhide HF).size (fun j e => Nat.le_of_eq (Option.some.inj e))⟩
      rw [ht]
      exact ⟨sp, m, cc, rfl, hlen, ((unhide O2).far s7 (by have := unhide hs4; omega)).mono (by have := unhide hs4; omega)⟩
end Go.Proofs.YtijcpmbfhfppmaaGreatDoor
end
/- Logs: what a record says is taken. -/
section
namespace Go.Proofs.YtijcpmbfhfppmaaGreatDoor
open Go.ChangeShapes Go.WideShapes Go.ChangeAt Go.RowKit
set_option linter.unusedVariables false

def markR (c : Wc) (l : List Nat) : Option Wc := match takeE l 0 with
  | .error _ => none
  | .ok (i, k) => match takeE l k with
    | .error _ => none
    | .ok (t, k2) => if k2 < l.length then none else some ⟨i, t, c.ht, c.hv, []⟩
def hardR (c : Wc) (l : List Nat) : Option Wc := match wholeE l (hardE l 0) with
  | .error _ => none
  | .ok (t, v) => some ⟨c.bi, c.bt, t, v, c.es⟩
def entR (c : Wc) (l : List Nat) : Option Wc := match wholeE l (entryE l 0) with
  | .error _ => none
  | .ok e => if fitsW c (e.2.2.1 : Int) = true then some (addW c e) else none
/-- What a record makes of it. -/
def takeR (c : Wc) : List Nat → Option Wc
  | [] => none
  | k :: b => if k = 1 then markR c b else if k = 2 then hardR c b else if k = 3 then entR c b else none
def TakeEnd (base : Nat) (w : World) (B : Nat) (T : TypeId) (p q : List Value) (ep : Option Addr) (hs : List (Option Addr × Nat)) (r : Option Wc) (e : Ending) (w' : World) : Prop :=
  Grew2 B (blk ep) w w' ∧ (match r with
    | none => e = .returned (.bool false)
    | some c' => e = .returned (.bool true) ∧ ∃ ep' ec' hs', CtAt w' B T p q c' ep' ec' ∧ OwnL base w' ep' ec' c'.es hs' ∧ ∀ g, LFoot ep' hs' g → LFoot ep hs g ∨ w.heap.size ≤ g)
section
variable {w : World} {B : Nat} {T : TypeId} {p q : List Value} {c : Wc} {ep : Option Addr} {ec : Nat} {base : Nat} {hs : List (Option Addr × Nat)}
theorem below_fin {w' : World} (h : Below w.heap.size w w') : TakeEnd base w B T p q ep hs none (.returned (.bool false)) w' := ⟨Grew2.ofBelow h, rfl⟩
set_option maxRecDepth 20000 in
set_option maxHeartbeats 8000000 in
theorem takeMark_calls (h : CtAt w B T p q c ep ec) (o : Nat) (ho : p.length = o) (a : Option Addr) (n k : Nat) (l : List Nat) (hn : l.length = n) (hm : n ≤ 140737488355328) (hb : BytesAt w a l) :
    Calls Tryz.prog 163 #[.pointer (some ⟨B, o, none⟩), .slice a n k] w (TakeEnd base w B T p q ep hs (markR c l)) := by
  have MR := hide (show markR c l = (match takeE l 0 with
    | .error _ => none
    | .ok (i, k) => match takeE l k with
      | .error _ => none
      | .ok (t, k2) => if k2 < l.length then none else some ⟨i, t, c.ht, c.hv, []⟩) from rfl)
  have HN := hide hn
  have HB := hide hb
  have HC := hide h
  have HL := hide hb.lt
  have HO := hide ho
  have hml : n ≤ maxLen := by simp only [maxLen]; omega
  cases h1 : takeE l 0 with
  | error x =>
    rw [h1] at MR
    dsimp only at MR
    rw [unhide MR]
    have T1 := hide (takeNum_bad a n k l 0 x w hn hml (by omega) hb h1)
    have hx := takeE_pos h1
    have hx0 : ¬ (x : Int) = 0 := by omega
    have hx1 : ((x : Int) == 0) = false := by simp; omega
    clear hb h hn ho h1
    go_enter Tryz.func163, Tryz.ntmps163
    go_wp2_with fail
    go_at_call 185
    refine (unhide T1).mono ?_
    rintro e V1 ⟨rfl, v1⟩
    have FE := hide (below_fin (base := base) (B := B) (T := T) (p := p) (q := q) (ep := ep) (hs := hs) v1)
    clear v1
    go_wp2
    go_ret
    exact unhide FE
  | ok r =>
    obtain ⟨i, k1⟩ := r
    rw [h1] at MR
    dsimp only at MR
    obtain ⟨hk1, hi⟩ := takeE_leb h1 hb.lt
    have T1 := hide (takeNum_ok a n k l 0 i k1 w hn hml (by omega) hb h1)
    cases h2 : takeE l k1 with
    | error x =>
      rw [h2] at MR
      dsimp only at MR
      rw [unhide MR]
      have T2 := hide (fun W (b : Below w.heap.size w W) => takeNum_bad a n k l k1 x W hn hml hk1 (hb.later b) h2)
      have hx := takeE_pos h2
      have hx0 : ¬ (x : Int) = 0 := by omega
      have hx1 : ((x : Int) == 0) = false := by simp; omega
      clear hb h hn ho h1 h2
      go_enter Tryz.func163, Tryz.ntmps163
      go_wp2_with fail
      go_at_call 185
      refine (unhide T1).mono ?_
      rintro e V1 ⟨rfl, v1⟩
      have B1 := hide v1
      clear v1
      go_wp2_with fail
      go_at_call 185
      refine (unhide T2 _ (unhide B1)).mono ?_
      rintro e V2 ⟨rfl, v2⟩
      have FE := hide (below_fin (base := base) (B := B) (T := T) (p := p) (q := q) (ep := ep) (hs := hs) ((unhide B1).trans (v2.mono (unhide B1).size)))
      clear v2
      go_wp2
      go_ret
      exact unhide FE
    | ok r2 =>
      obtain ⟨t, k2⟩ := r2
      rw [h2] at MR
      dsimp only at MR
      obtain ⟨hk2, ht⟩ := takeE_leb h2 hb.lt
      have T2 := hide (fun W (b : Below w.heap.size w W) => takeNum_ok a n k l k1 t k2 W hn hml hk1 (hb.later b) h2)
      by_cases h3 : k2 < l.length
      · rw [if_pos h3] at MR
        rw [unhide MR]
        have h3' : (k2 : Int) < (n : Int) := by omega
        clear hb h hn ho h1 h2 h3
        go_enter Tryz.func163, Tryz.ntmps163
        go_wp2_with fail
        go_at_call 185
        refine (unhide T1).mono ?_
        rintro e V1 ⟨rfl, v1⟩
        have B1 := hide v1
        clear v1
        go_wp2_with fail
        go_at_call 185
        refine (unhide T2 _ (unhide B1)).mono ?_
        rintro e V2 ⟨rfl, v2⟩
        have FE := hide (below_fin (base := base) (B := B) (T := T) (p := p) (q := q) (ep := ep) (hs := hs) ((unhide B1).trans (v2.mono (unhide B1).size)))
        clear v2
        go_wp2
        go_ret
        exact unhide FE
      · rw [if_neg h3] at MR
        rw [unhide MR]
        have h3' : ¬ (k2 : Int) < (n : Int) := by omega
        clear hb h hn ho h1 h2 h3
        go_enter Tryz.func163, Tryz.ntmps163
        go_wp2_with fail
        go_at_call 185
        refine (unhide T1).mono ?_
        rintro e V1 ⟨rfl, v1⟩
        have B1 := hide v1
        clear v1
        go_wp2_with fail
        go_at_call 185
        refine (unhide T2 _ (unhide B1)).mono ?_
        rintro e V2 ⟨rfl, v2⟩
        have B2 := hide ((unhide B1).trans (v2.mono (unhide B1).size))
        have CT := hide ((unhide HC).later (unhide B2))
        clear v2
        obtain ⟨⟨c0, c1, c2, c3, c4⟩, fz⟩ := (unhide CT).cells o (unhide HO)
        have f0 := fz o
        have f1 := fz (o + 1)
        have f4 := fz (o + 4)
        have S1 := (unhide CT).set o 0 (unhide HO) ⟨i, c.bt, c.ht, c.hv, c.es⟩ ep ec (.int .i64 (i : Int)) rfl (by omega)
        have S2 := S1.set o 1 (unhide HO) ⟨i, t, c.ht, c.hv, c.es⟩ ep ec (.int .i64 (t : Int)) rfl (by omega)
        have S3 := S2.set o 4 (unhide HO) ⟨i, t, c.ht, c.hv, []⟩ none 0 (.slice none 0 0) rfl (by omega)
        have FE := hide (show TakeEnd base w B T p q ep hs (some ⟨i, t, c.ht, c.hv, []⟩) (.returned (.bool true)) (((V2.setCell ⟨B, o + 0, none⟩ (.int .i64 (i : Int))).setCell ⟨B, o + 1, none⟩ (.int .i64 (t : Int))).setCell ⟨B, o + 4, none⟩ (.slice none 0 0)) from by
          refine ⟨⟨(unhide B2).os, (unhide B2).tape, (unhide B2).output, by have := (unhide B2).size; simp [World.setCell]; omega, fun j h1 h2 _ => ?_⟩, rfl, none, 0, [], S3, OwnL.ofNil _ _, fun g hg => ?_⟩
          · exact (heap_setCell_other _ ⟨B, o + 4, none⟩ j _ h2).trans ((heap_setCell_other _ ⟨B, o + 1, none⟩ j _ h2).trans ((heap_setCell_other _ ⟨B, o + 0, none⟩ j _ h2).trans ((unhide B2).block j h1)))
          · rcases hg with hg | ⟨x, hx, _⟩
            · cases hg
            · simp at hx)
        rw [Nat.add_zero] at FE
        clear S1 S2 S3 fz
        go_wp2
        go_ret
        exact unhide FE
end
end Go.Proofs.YtijcpmbfhfppmaaGreatDoor
end
/- Logs: hard states and entries are taken; any record. -/
section
namespace Go.Proofs.YtijcpmbfhfppmaaGreatDoor
open Go.ChangeShapes Go.WideShapes Go.ChangeAt Go.RowKit
set_option linter.unusedVariables false

section
variable {w : World} {B : Nat} {T : TypeId} {p q : List Value} {c : Wc} {ep : Option Addr} {ec : Nat} {base : Nat} {hs : List (Option Addr × Nat)}
set_option maxRecDepth 20000 in
set_option maxHeartbeats 8000000 in
theorem takeHard_calls (h : CtAt w B T p q c ep ec) (o : Nat) (ho : p.length = o) (hT : T ≠ 60) (hT2 : T ≠ 5) (hE : OwnL base w ep ec c.es hs) (a : Option Addr) (n k : Nat) (l : List Nat) (hn : l.length = n) (hm : n ≤ 140737488355328) (hb : BytesAt w a l) :
    Calls Tryz.prog 164 #[.pointer (some ⟨B, o, none⟩), .slice a n k] w (TakeEnd base w B T p q ep hs (hardR c l)) := by
  have MR := hide (show hardR c l = (match wholeE l (hardE l 0) with
    | .error _ => none
    | .ok (t, v) => some ⟨c.bi, c.bt, t, v, c.es⟩) from rfl)
  have HC := hide h
  have HO := hide ho
  have HE := hide hE
  have T1 := hide (getHard_calls a n k l w hn (by simp only [maxLen]; omega) hb)
  have hNB : ∀ g, LFoot ep hs g → g ≠ B := fun g hg e => by
    subst e
    obtain ⟨_, _, cur, T', hc, hT'⟩ := hE.foot g hg
    rw [h.row] at hc
    simp only [Option.some.injEq, Obj.cells.injEq] at hc
    rw [← hc.2.1] at hT'
    rcases hT' with a | a
    · exact hT a
    · exact hT2 a
  have NB := hide hNB
  cases h1 : wholeE l (hardE l 0) with
  | error x =>
    rw [h1] at MR T1
    dsimp only at MR
    rw [unhide MR]
    have hx := wholeE_pos h1 (fun y hy => hardE_pos hy)
    have hx0 : ¬ (x : Int) = 0 := by omega
    have hx1 : ((x : Int) == 0) = false := by simp; omega
    unfold hardV at T1
    dsimp only at T1
    clear hb h hn ho h1 hE hNB
    go_enter Tryz.func164, Tryz.ntmps164
    go_wp2_with fail
    go_at_call 186
    refine (unhide T1).mono ?_
    rintro e V1 ⟨rfl, v1⟩
    have FE := hide (below_fin (base := base) (B := B) (T := T) (p := p) (q := q) (ep := ep) (hs := hs) (v1.alloc v1.size (.cells #[.int .i64 0, .int .i64 0] 29)))
    clear v1
    go_wp2
    go_ret
    exact unhide FE
  | ok r =>
    obtain ⟨t, v⟩ := r
    rw [h1] at MR T1
    dsimp only at MR
    rw [unhide MR]
    unfold hardV at T1
    dsimp only at T1
    clear hb h hn ho h1 hE hNB
    go_enter Tryz.func164, Tryz.ntmps164
    go_wp2_with fail
    go_at_call 186
    refine (unhide T1).mono ?_
    rintro e V1 ⟨rfl, v1⟩
    have B2 := hide (v1.alloc v1.size (.cells #[.int .i64 (t : Int), .int .i64 (v : Int)] 29))
    have XH := heap_new V1 (.cells #[.int .i64 (t : Int), .int .i64 (v : Int)] 29)
    obtain ⟨x0, x1, _, _⟩ := pair_cells XH
    have CT := hide ((unhide HC).later (unhide B2))
    have BL := hide (show B < V1.heap.size from Nat.lt_of_lt_of_le (unhide HC).lt v1.size)
    clear v1 XH
    obtain ⟨⟨c0, c1, c2, c3, c4⟩, fz⟩ := (unhide CT).cells o (unhide HO)
    have f2 := fz (o + 2)
    have f3 := fz (o + 3)
    have S1 := (unhide CT).set o 2 (unhide HO) ⟨c.bi, c.bt, t, c.hv, c.es⟩ ep ec (.int .i64 (t : Int)) rfl (by omega)
    have S2 := S1.set o 3 (unhide HO) ⟨c.bi, c.bt, t, v, c.es⟩ ep ec (.int .i64 (v : Int)) rfl (by omega)
    have FE := hide (show TakeEnd base w B T p q ep hs (some ⟨c.bi, c.bt, t, v, c.es⟩) (.returned (.bool true)) (((V1.alloc (.cells #[.int .i64 (t : Int), .int .i64 (v : Int)] 29)).setCell ⟨B, o + 2, none⟩ (.int .i64 (t : Int))).setCell ⟨B, o + 3, none⟩ (.int .i64 (v : Int))) from by
      have hoth : ∀ j, j ≠ B → (((V1.alloc (.cells #[.int .i64 (t : Int), .int .i64 (v : Int)] 29)).setCell ⟨B, o + 2, none⟩ (.int .i64 (t : Int))).setCell ⟨B, o + 3, none⟩ (.int .i64 (v : Int))).heap[j]? = (V1.alloc (.cells #[.int .i64 (t : Int), .int .i64 (v : Int)] 29)).heap[j]? := fun j hj => (heap_setCell_other _ ⟨B, o + 3, none⟩ j _ hj).trans (heap_setCell_other _ ⟨B, o + 2, none⟩ j _ hj)
      refine ⟨⟨(unhide B2).os, (unhide B2).tape, (unhide B2).output, by have := (unhide B2).size; simp only [World.setCell]; simp at this ⊢; omega, fun j h1 h2 _ => (hoth j h2).trans ((unhide B2).block j h1)⟩, rfl, ep, ec, hs, S2, ?_, fun g hg => .inl hg⟩
      exact ((unhide HE).later (unhide B2)).same (fun g hg => hoth g (unhide NB g hg)))
    clear S1 S2 fz c0 c1 c4
    have hne : V1.heap.size ≠ B := by have := unhide BL; omega
    have hne' : B ≠ V1.heap.size := fun e => hne e.symm
    go_wp2
    go_ret
    exact unhide FE
set_option maxRecDepth 20000 in
set_option maxHeartbeats 8000000 in
theorem takeEntry_calls (h : CtAt w B T p q c ep ec) (o : Nat) (ho : p.length = o) (hT : T ≠ 60) (hT2 : T ≠ 5) (hE : OwnL base w ep ec c.es hs) (hbi : c.bi ≤ 1099511627776) (hle : c.es.length ≤ 1000000) (hbs : base ≤ w.heap.size) (a : Option Addr) (n k : Nat) (l : List Nat) (hn : l.length = n) (hm : n ≤ 140737488355328) (hnk : n ≤ k) (hz : a = none → k = 0) (hb : BytesAt w a l) :
    Calls Tryz.prog 165 #[.pointer (some ⟨B, o, none⟩), .slice a n k] w (TakeEnd base w B T p q ep hs (entR c l)) := by
  have MR := hide (show entR c l = (match wholeE l (entryE l 0) with
    | .error _ => none
    | .ok e => if fitsW c (e.2.2.1 : Int) = true then some (addW c e) else none) from rfl)
  have HC := hide h
  have HO := hide ho
  have HE := hide hE
  have T1 := getEntry_calls a n k l w hn (by omega) (by omega) hz hb
  cases h1 : wholeE l (entryE l 0) with
  | error x =>
    rw [h1] at MR T1
    dsimp only at MR
    rw [unhide MR]
    have hx := wholeE_pos h1 (fun y hy => entryE_pos hy)
    have hx0 : ¬ (x : Int) = 0 := by omega
    have hx1 : ((x : Int) == 0) = false := by simp; omega
    unfold EntRes at T1
    dsimp only at T1
    have T1 := hide T1
    clear hb h hn ho h1 hE
    go_enter Tryz.func165, Tryz.ntmps165
    go_wp2_with fail
    go_at_call 187
    refine (unhide T1).mono ?_
    rintro e V1 ⟨⟨v, rfl, rfl⟩, v1⟩
    have FE := hide (below_fin (base := base) (B := B) (T := T) (p := p) (q := q) (ep := ep) (hs := hs) (v1.alloc v1.size (.cells #[.int .i64 0, .int .i64 0, .int .i64 0, .slice none 0 0] 60)))
    clear v1
    go_wp2
    go_ret
    exact unhide FE
  | ok r =>
    obtain ⟨ek, et, ei, ed⟩ := r
    rw [h1] at MR T1
    dsimp only at MR
    unfold EntRes at T1
    dsimp only at T1
    have T1 := hide T1
    have FC := hide (fun (W : World) (u : Below w.heap.size w W) => fits_calls ((unhide HC).later u) o (unhide HO) hbi (by omega) (ei : Int))
    cases hf : fitsW c (ei : Int) with
    | false =>
      rw [hf, if_neg (by simp)] at MR
      rw [hf] at FC
      rw [unhide MR]
      clear hb h hn ho h1 hE hf
      go_enter Tryz.func165, Tryz.ntmps165
      go_wp2_with fail
      go_at_call 187
      refine (unhide T1).mono ?_
      rintro e V1 ⟨⟨v, rfl, sp, m, kc, rfl, hmm, o1⟩, v1⟩
      have B2 := hide (v1.alloc v1.size (.cells #[.int .i64 (ek : Int), .int .i64 (et : Int), .int .i64 (ei : Int), .slice sp m kc] 60))
      have XH := heap_new V1 (.cells #[.int .i64 (ek : Int), .int .i64 (et : Int), .int .i64 (ei : Int), .slice sp m kc] 60)
      have x2 := box_cell XH 2 _ rfl
      clear v1 XH o1
      go_wp2_with fail
      clear x2
      generalize V1.alloc _ = V2 at *
      go_at_call 105
      refine (unhide FC _ (unhide B2)).mono ?_
      rintro e V3 ⟨rfl, v3⟩
      have FE := hide (below_fin (base := base) (B := B) (T := T) (p := p) (q := q) (ep := ep) (hs := hs) ((unhide B2).trans (v3.mono (unhide B2).size)))
      clear v3
      go_wp2
      go_ret
      exact unhide FE
    | true =>
      rw [hf, if_pos rfl] at MR
      rw [hf] at FC
      rw [unhide MR]
      have hff : c.bi < ei ∧ ei ≤ c.bi + c.es.length + 1 := by
        unfold fitsW at hf
        rw [Bool.and_eq_true, decide_eq_true_eq, decide_eq_true_eq] at hf
        omega
      have AC := hide (fun (W : World) (u : Below w.heap.size w W) (sp : Option Addr) (m kc : Nat) (hm : ed.length = m) (hd : Bx base W sp kc ed) => add_calls ((unhide HC).later u) o (unhide HO) hT hT2 ((unhide HE).later u) hbi hle (ek, et, ei, ed) sp m kc hm hd hff.1 hff.2 (Nat.le_trans hbs u.size))
      dsimp only at AC
      have HBS := hide hbs
      clear hb h hn ho h1 hE hf hff hbs
      go_enter Tryz.func165, Tryz.ntmps165
      go_wp2_with fail
      go_at_call 187
      refine (unhide T1).mono ?_
      rintro e V1 ⟨⟨v, rfl, sp, m, kc, rfl, hmm, o1⟩, v1⟩
      have B2 := hide (v1.alloc v1.size (.cells #[.int .i64 (ek : Int), .int .i64 (et : Int), .int .i64 (ei : Int), .slice sp m kc] 60))
      have XH := heap_new V1 (.cells #[.int .i64 (ek : Int), .int .i64 (et : Int), .int .i64 (ei : Int), .slice sp m kc] 60)
      have ul : Below V1.heap.size V1 (V1.alloc (.cells #[.int .i64 (ek : Int), .int .i64 (et : Int), .int .i64 (ei : Int), .slice sp m kc] 60)) := (Below.refl _ _).alloc (Nat.le_refl _) _
      have XX := hide XH
      have DB := hide (show Bx w.heap.size (V1.alloc (.cells #[.int .i64 (ek : Int), .int .i64 (et : Int), .int .i64 (ei : Int), .slice sp m kc] 60)) sp kc ed from o1.toBx.later ul)
      have x2 := box_cell XH 2 _ rfl
      clear v1 XH o1 ul
      go_wp2_with fail
      clear x2
      generalize V1.alloc _ = V2 at *
      generalize V1.heap.size = X at *
      go_at_call 105
      refine (unhide FC _ (unhide B2)).mono ?_
      rintro e V3 ⟨rfl, v3⟩
      have B3 := hide ((unhide B2).trans (v3.mono (unhide B2).size))
      have XX := hide (later_block v3 (unhide XX))
      have DB := hide ((unhide DB).later v3)
      have x0 := box_cell (unhide XX) 0 _ rfl
      have x1 := box_cell (unhide XX) 1 _ rfl
      have x2 := box_cell (unhide XX) 2 _ rfl
      have x3 := box_cell (unhide XX) 3 _ rfl
      clear v3
      go_wp2_with fail
      clear x0 x1 x2 x3
      go_at_call 68
      refine (unhide AC V3 (unhide B3) sp m kc (unhide hmm) ((unhide DB).mono (unhide HBS))).mono ?_
      rintro e V4 ⟨rfl, ep', ec', hs', ct, ol, gr, ft⟩
      have FE := hide (show TakeEnd base w B T p q ep hs (some (addW c (ek, et, ei, ed))) (.returned (.bool true)) V4 from by
        refine ⟨⟨gr.os.trans (unhide B3).os, gr.tape.trans (unhide B3).tape, gr.output.trans (unhide B3).output, Nat.le_trans (unhide B3).size gr.size, fun i h1 h2 h3 => (gr.block i (Nat.lt_of_lt_of_le h1 (unhide B3).size) h2 h3).trans ((unhide B3).block i h1)⟩, rfl, ep', ec', hs', ct, ol, fun g hg => ?_⟩
        rcases ft g hg with a | a | a
        · exact .inl a
        · exact .inr ((unhide DB).isT g a).1
        · exact .inr (Nat.le_trans (unhide B3).size a))
      clear ct ol gr ft
      go_wp2
      go_ret
      exact unhide FE
end
end Go.Proofs.YtijcpmbfhfppmaaGreatDoor
end
/- Logs: any record is taken; what a row of records says. -/
section
namespace Go.Proofs.YtijcpmbfhfppmaaGreatDoor
open Go.ChangeShapes Go.WideShapes Go.ChangeAt Go.RowKit
set_option linter.unusedVariables false

section
variable {w : World} {B : Nat} {T : TypeId} {p q : List Value} {c : Wc} {ep : Option Addr} {ec : Nat} {base : Nat} {hs : List (Option Addr × Nat)}
set_option maxRecDepth 20000 in
set_option maxHeartbeats 8000000 in
theorem take_calls (h : CtAt w B T p q c ep ec) (o : Nat) (ho : p.length = o) (hT : T ≠ 60) (hT2 : T ≠ 5) (hE : OwnL base w ep ec c.es hs) (hbi : c.bi ≤ 1099511627776) (hle : c.es.length ≤ 1000000) (hbs : base ≤ w.heap.size) (a : Option Addr) (n k : Nat) (l : List Nat) (hn : l.length = n) (hm : n ≤ 140737488355328) (hnk : n ≤ k) (hz : a = none → k = 0) (hb : BytesAt w a l) :
    Calls Tryz.prog 134 #[.pointer (some ⟨B, o, none⟩), .slice a n k] w (TakeEnd base w B T p q ep hs (takeR c l)) := by
  cases l with
  | nil =>
    subst hn
    have FE := hide (show TakeEnd base w B T p q ep hs (takeR c []) (.returned (.bool false)) w from below_fin (Below.refl _ _))
    clear h hE hb hz hnk hm
    go_enter Tryz.func134, Tryz.ntmps134
    go_wp2
    go_ret
    exact unhide FE
  | cons kd b =>
    obtain ⟨bb, off, hoff, hcell⟩ := hb.cell 0 (by simp)
    have hkd := hb.lt kd (by simp)
    have hln : b.length = n - 1 := by rw [← hn]; simp
    have hn1 : 1 ≤ n := by rw [← hn]; simp
    have hbt : BytesAt w (slp a 1 k) b := by
      have := hb.drop 1 k (by rw [hn]; exact hnk)
      simpa using this
    have hz' : slp a 1 k = none → k - 1 = 0 := fun e => by
      unfold slp at e
      split at e
      · rename_i h1
        omega
      · subst hoff
        cases e
    have hsl := fun u => run_slice_l8 a n k 1 hn1 u
    have MC := hide (takeMark_calls (base := base) (hs := hs) h o ho (slp a 1 k) (n - 1) (k - 1) b hln (by omega) hbt)
    have HCl := hide (takeHard_calls h o ho hT hT2 hE (slp a 1 k) (n - 1) (k - 1) b hln (by omega) hbt)
    have EC := hide (takeEntry_calls h o ho hT hT2 hE hbi hle hbs (slp a 1 k) (n - 1) (k - 1) b hln (by omega) (by omega) hz' hbt)
    have TR := hide (show takeR c (kd :: b) = (if kd = 1 then markR c b else if kd = 2 then hardR c b else if kd = 3 then entR c b else none) from rfl)
    rw [hoff] at MC HCl EC hsl ⊢
    rw [Nat.add_zero] at hcell
    have hc2 : w.cell? ⟨bb, off, none⟩ = some (.int .u8 (kd : Int)) := hcell
    clear hcell
    have hn0 : ((n : Int) == 0) = false := by simp; omega
    have hn2 : (0 : Int) < (n : Int) := by omega
    have B0 := hide (show TakeEnd base w B T p q ep hs none (.returned (.bool false)) w from below_fin (Below.refl _ _))
    generalize slp (some ⟨bb, off, none⟩) 1 k = sl at *
    clear hb hbt hoff hE h hln hz hz'
    have hsl1 : ∀ u, (Instr.slice 58 (.slice (some ⟨bb, off, none⟩) n k) (some (.int .i64 1)) none none).run Tryz.prog u = .ok (.slice sl (n - 1) (k - 1)) u := hsl
    clear hsl
    by_cases h1 : kd = 1
    · rw [if_pos h1] at TR
      rw [unhide TR]
      subst h1
      go_enter Tryz.func134, Tryz.ntmps134
      go_wp2_with fail
      go_at_call 163
      refine (unhide MC).mono ?_
      intro e V hV
      have FE := hide hV
      obtain ⟨b', rfl⟩ : ∃ b' : Bool, e = .returned (.bool b') := by
        have := hV.2
        cases hr : markR c b with
        | none => rw [hr] at this; exact ⟨_, this⟩
        | some c' => rw [hr] at this; exact ⟨_, this.1⟩
      clear hV
      go_wp2
      go_ret
      exact unhide FE
    · rw [if_neg h1] at TR
      have e1 : ((kd : Int) == 1) = false := by simp; omega
      by_cases h2 : kd = 2
      · rw [if_pos h2] at TR
        rw [unhide TR]
        subst h2
        go_enter Tryz.func134, Tryz.ntmps134
        go_wp2_with fail
        go_at_call 164
        refine (unhide HCl).mono ?_
        intro e V hV
        have FE := hide hV
        obtain ⟨b', rfl⟩ : ∃ b' : Bool, e = .returned (.bool b') := by
          have := hV.2
          cases hr : hardR c b with
          | none => rw [hr] at this; exact ⟨_, this⟩
          | some c' => rw [hr] at this; exact ⟨_, this.1⟩
        clear hV
        go_wp2
        go_ret
        exact unhide FE
      · rw [if_neg h2] at TR
        have e2 : ((kd : Int) == 2) = false := by simp; omega
        by_cases h3 : kd = 3
        · rw [if_pos h3] at TR
          rw [unhide TR]
          subst h3
          go_enter Tryz.func134, Tryz.ntmps134
          go_wp2_with fail
          go_at_call 165
          refine (unhide EC).mono ?_
          intro e V hV
          have FE := hide hV
          obtain ⟨b', rfl⟩ : ∃ b' : Bool, e = .returned (.bool b') := by
            have := hV.2
            cases hr : entR c b with
            | none => rw [hr] at this; exact ⟨_, this⟩
            | some c' => rw [hr] at this; exact ⟨_, this.1⟩
          clear hV
          go_wp2
          go_ret
          exact unhide FE
        · rw [if_neg h3] at TR
          rw [unhide TR]
          have e3 : ((kd : Int) == 3) = false := by simp; omega
          have m1 : ¬ (kd : Int) = 1 := by omega
          have m2 : ¬ (kd : Int) = 2 := by omega
          have m3 : ¬ (kd : Int) = 3 := by omega
          clear h1 h2 h3
          go_enter Tryz.func134, Tryz.ntmps134
          go_wp2
          go_ret
          exact unhide B0
end
def isMarkL (l : List Nat) : Bool := l.head? == some 1
theorem isMark_calls (a : Option Addr) (n k : Nat) (l : List Nat) (w : World) (hn : l.length = n) (hm : n ≤ 140737488355328) (hb : BytesAt w a l) :
    Calls Tryz.prog 133 #[.slice a n k] w fun e w' => e = .returned (.bool (isMarkL l)) ∧ w' = w := by
  cases l with
  | nil =>
    obtain rfl : n = 0 := by simpa using hn.symm
    clear hn hb hm
    go_enter Tryz.func133, Tryz.ntmps133
    go_wp2
    go_ret
    exact ⟨rfl, rfl⟩
  | cons kd b =>
    obtain ⟨bb, off, rfl, hcell⟩ := hb.cell 0 (by simp)
    have hkd := hb.lt kd (by simp)
    have hn1 : 1 ≤ n := by rw [← hn]; simp
    have hn2 : (0 : Int) < (n : Int) := by omega
    rw [Nat.add_zero] at hcell
    have hc2 : w.cell? ⟨bb, off, none⟩ = some (.int .u8 (kd : Int)) := hcell
    clear hcell
    have FE := hide (show isMarkL (kd :: b) = ((kd : Int) == 1) by
      unfold isMarkL
      simp only [List.head?_cons]
      by_cases h : kd = 1
      · subst h; rfl
      · rw [show ((kd : Int) == 1) = false by simp; omega]
        simpa using h)
    generalize isMarkL (kd :: b) = im at *
    clear hn hb
    go_enter Tryz.func133, Tryz.ntmps133
    go_wp2
    go_ret
    exact ⟨by rw [unhide FE]; rfl, rfl⟩
end Go.Proofs.YtijcpmbfhfppmaaGreatDoor
end
/- Logs: what a row of records says. -/
section
namespace Go.Proofs.YtijcpmbfhfppmaaGreatDoor
open Go.ChangeShapes Go.WideShapes Go.ChangeAt Go.RowKit
set_option linter.unusedVariables false

/-- Rows of bytes as they lie in memory. -/
structure RowsAt (w : World) (sp : Option Addr) (rs : List (List Nat)) : Prop where
  cell : ∀ i (hi : i < rs.length), ∃ b off a k, sp = some ⟨b, off, none⟩ ∧ w.cell? ⟨b, off + i, none⟩ = some (.slice a rs[i].length k) ∧ BytesAt w a rs[i] ∧ rs[i].length ≤ k ∧ (a = none → k = 0)
theorem RowsAt.later {w w' : World} {sp : Option Addr} {rs : List (List Nat)} (h : RowsAt w sp rs) (hb : Below w.heap.size w w') : RowsAt w' sp rs :=
  ⟨fun i hi => by obtain ⟨b, off, a, k, e, h1, h2, h3, h4⟩ := h.cell i hi; exact ⟨b, off, a, k, e, cell_later hb h1, h2.later hb, h3, h4⟩⟩
theorem OwnS.rows {base : Nat} {w : World} {sp : Option Addr} {n c : Nat} {rs : List (List Nat)} (h : OwnS base w (.slice sp n c) rs) : RowsAt w sp rs := by
  obtain ⟨cs, hr, hd⟩ := h.ex
  refine ⟨fun i hi => ?_⟩
  obtain ⟨p, k, hc, ho⟩ := hd i hi
  rcases hr.2 with ⟨hv, h0⟩ | ⟨g, cap, cur, hv, hb, hg, hle, hmx, hsz, ht⟩
  · omega
  · simp only [Value.slice.injEq] at hv
    obtain ⟨rfl, _, rfl⟩ := hv
    have e : rs.getD i [] = rs[i] := by rw [List.getD_eq_getElem?_getD, List.getElem?_eq_getElem hi]; rfl
    rw [e] at hc ho
    refine ⟨g, 0, p, k, rfl, ?_, ho.bytes, ho.cap.1, ho.toBx.nil0⟩
    rw [Nat.zero_add, cell_of_row w g _ cur _ _ hg, ← Array.getElem?_toList]
    rw [← ht, List.getElem?_take] at hc
    split at hc
    · exact hc
    · cases hc
def foldR (c : Wc) : List (List Nat) → Option Wc
  | [] => some c
  | r :: rs => match takeR c r with
    | none => none
    | some c' => foldR c' rs
theorem foldR_cons (c : Wc) (r : List Nat) (rs : List (List Nat)) : foldR c (r :: rs) = (match takeR c r with
    | none => none
    | some c' => foldR c' rs) := rfl
theorem takeR_cons (c : Wc) (k : Nat) (b : List Nat) : takeR c (k :: b) = (if k = 1 then markR c b else if k = 2 then hardR c b else if k = 3 then entR c b else none) := rfl
/-- What records say; none, if one is none or does not fit, or no mark's comes first. -/
def contR : List (List Nat) → Option Wc
  | [] => none
  | r :: rs => if isMarkL r = true then foldR wc0 (r :: rs) else none
theorem foldR_app (a b : List (List Nat)) (c : Wc) : foldR c (a ++ b) = (match foldR c a with
    | none => none
    | some c' => foldR c' b) := by
  induction a generalizing c with
  | nil => rfl
  | cons r a ih =>
    rw [List.cons_append, foldR_cons, foldR_cons]
    cases takeR c r with
    | none => rfl
    | some c' => exact ih c'
theorem foldR_snoc (a : List (List Nat)) (r : List Nat) (c c' : Wc) (h : foldR c a = some c') : foldR c (a ++ [r]) = takeR c' r := by
  rw [foldR_app, h]
  dsimp only
  rw [foldR_cons]
  cases takeR c' r <;> rfl
theorem takeR_bi {c c' : Wc} {l : List Nat} (h : takeR c l = some c') (hl : ∀ x ∈ l, x < 256) (hb : c.bi ≤ 1099511627776) : c'.bi ≤ 1099511627776 ∧ c'.es.length ≤ c.es.length + 1 := by
  cases l with
  | nil => cases h
  | cons k b =>
    have hlb : ∀ x ∈ b, x < 256 := fun x hx => hl x (List.mem_cons_of_mem _ hx)
    rw [takeR_cons] at h
    split at h
    · unfold markR at h
      cases h1 : takeE b 0 with
      | error x => rw [h1] at h; cases h
      | ok r =>
        obtain ⟨i, k1⟩ := r
        rw [h1] at h
        dsimp only at h
        have hi := takeE_leb h1 hlb
        cases h2 : takeE b k1 with
        | error x => rw [h2] at h; cases h
        | ok r2 =>
          obtain ⟨t, k2⟩ := r2
          rw [h2] at h
          dsimp only at h
          split at h
          · cases h
          · cases h
            exact ⟨hi.2, by simp⟩
    · split at h
      · unfold hardR at h
        cases h1 : wholeE b (hardE b 0) with
        | error x => rw [h1] at h; cases h
        | ok r =>
          rw [h1] at h
          cases h
          exact ⟨hb, by simp⟩
      · split at h
        · unfold entR at h
          cases h1 : wholeE b (entryE b 0) with
          | error x => rw [h1] at h; cases h
          | ok e =>
            rw [h1] at h
            dsimp only at h
            split at h
            · cases h
              refine ⟨hb, ?_⟩
              unfold addW
              simp only [List.length_append, List.length_take, List.length_cons, List.length_nil]
              omega
            · cases h
        · cases h
/-- How contentOf ends. -/
def ContEnd (w : World) (n : Nat) (r : Option Wc) (e : Ending) (w' : World) : Prop := Below w.heap.size w w' ∧ (match r with
  | none => e = .returned (.tuple #[.agg #[.int .i64 0, .int .i64 0, .int .i64 0, .int .i64 0, .slice none 0 0], .bool false])
  | some c => ∃ ep ec hs, e = .returned (.tuple #[.agg #[.int .i64 (c.bi : Int), .int .i64 (c.bt : Int), .int .i64 (c.ht : Int), .int .i64 (c.hv : Int), .slice ep c.es.length ec], .bool true]) ∧ OwnL w.heap.size w' ep ec c.es hs ∧ c.bi ≤ 1099511627776 ∧ c.es.length ≤ n)
/-- The result's cell, and the content that grows. -/
structure CtI (w : World) (n : Nat) (c : Wc) (ep : Option Addr) (ec : Nat) (hs : List (Option Addr × Nat)) (W : World) : Prop where
  res : W.heap[w.heap.size]? = some (.cells #[.int .i64 0, .int .i64 0, .int .i64 0, .int .i64 0, .slice none 0 0] 94 (0, 0))
  ct : CtAt W (w.heap.size + 1) 94 [] [] c ep ec
  ow : OwnL w.heap.size W ep ec c.es hs
  bel : Below w.heap.size w W
theorem CtI.later {w : World} {n : Nat} {c : Wc} {ep : Option Addr} {ec : Nat} {hs : List (Option Addr × Nat)} {W W' : World} (h : CtI w n c ep ec hs W) (u : Below W.heap.size W W') : CtI w n c ep ec hs W' :=
  ⟨later_block u h.res, h.ct.later u, h.ow.later u, h.bel.trans (u.mono h.bel.size)⟩
theorem CtI.took {w : World} {n : Nat} {c : Wc} {ep : Option Addr} {ec : Nat} {hs : List (Option Addr × Nat)} {W W' : World} (h : CtI w n c ep ec hs W) (g : Grew2 (w.heap.size + 1) (blk ep) W W') : W'.heap[w.heap.size]? = some (.cells #[.int .i64 0, .int .i64 0, .int .i64 0, .int .i64 0, .slice none 0 0] 94 (0, 0)) ∧ Below w.heap.size w W' := by
  have hep : ∀ x, blk ep = some x → w.heap.size ≤ x ∧ x ≠ w.heap.size := fun x hx => by
    obtain ⟨q1, _, cur, T, hc, hT⟩ := h.ow.foot x (.inl hx)
    refine ⟨q1, fun e => ?_⟩
    subst e
    rw [h.res] at hc
    simp only [Option.some.injEq, Obj.cells.injEq] at hc
    rw [← hc.2.1] at hT
    exact absurd hT (by decide)
  have hsz := h.bel.size
  refine ⟨(g.block _ (Array.getElem?_eq_some_iff.1 h.res).1 (by omega) (fun e => (hep _ e).2 rfl)).trans h.res, ⟨g.os.trans h.bel.os, g.tape.trans h.bel.tape, g.output.trans h.bel.output, Nat.le_trans hsz g.size, fun k hk => (g.block k (by omega) (by omega) (fun e => by have := (hep _ e).1; omega)).trans (h.bel.block k hk)⟩⟩
end Go.Proofs.YtijcpmbfhfppmaaGreatDoor
end
