/- The contract of wire.PutMsg where a message may be put; bytes that are taken for a message are just its bytes. -/
import Derived.Test.YtilkginjppgcoaaAddm
namespace Go.Proofs.Ytilkginjppgcoaa
open Go.ChangeShapes Go.WideShapes Go.ChangeAt Go.RowKit

set_option maxRecDepth 20000 in
set_option maxHeartbeats 2000000 in
theorem putMsg_yes (kd fr to t ix lt cm hi ro : Nat) (ob : Nat) (bo : Bool) (hob : ob = if bo then 1 else 0) (ep : Option Addr) (en ec : Nat) (dp : Option Addr) (dm dc : Nat) (es : List EntN) (d : List Nat) (w : World) (hok : MsgOk kd fr to t ix lt cm hi ro es d) (hn : es.length = en) (hd : d.length = dm) (hE : EntsAt w ep (es.map toI)) (hB : BytesAt w dp d) (hz : dp = none → dc = 0) :
    Calls Try.prog 5 #[.agg #[.int .i64 (kd : Int), .int .i64 (fr : Int), .int .i64 (to : Int), .int .i64 (t : Int), .int .i64 (ix : Int), .int .i64 (lt : Int), .int .i64 (cm : Int), .int .i64 (hi : Int), .int .i64 (ro : Int), .bool bo, .slice ep en ec, .slice dp dm dc]] w fun e w' => ∃ sp n c, e = .returned (.tuple #[.slice sp n c, .int .i64 0]) ∧ Hid ((msgB kd fr to t ix lt cm hi ro ob es d).length = n) ∧ OwnB w.heap.size w' sp c (msgB kd fr to t ix lt cm hi ro ob es d) ∧ Below w.heap.size w w' := by
  have x0 := heap_new w (.cells #[.int .i64 (kd : Int), .int .i64 (fr : Int), .int .i64 (to : Int), .int .i64 (t : Int), .int .i64 (ix : Int), .int .i64 (lt : Int), .int .i64 (cm : Int), .int .i64 (hi : Int), .int .i64 (ro : Int), .bool bo, .slice ep en ec, .slice dp dm dc] 26)
  obtain ⟨c0, c1, c2, c3, c4, c5, c6, c7, c8, c9, c10, c11⟩ := twelve_cells x0
  have X0 := hide x0
  have bA : Below w.heap.size w (w.alloc (.cells #[.int .i64 (kd : Int), .int .i64 (fr : Int), .int .i64 (to : Int), .int .i64 (t : Int), .int .i64 (ix : Int), .int .i64 (lt : Int), .int .i64 (cm : Int), .int .i64 (hi : Int), .int .i64 (ro : Int), .bool bo, .slice ep en ec, .slice dp dm dc] 26)) := (Below.refl _ _).alloc (Nat.le_refl _) _
  have BA := hide bA
  have HE := hide (hE.later bA)
  have HB := hide (hB.later bA)
  have HN := hide hn
  have HD := hide hd
  have HZ := hide hz
  have HK := hide hok
  have HOB := hide hob
  clear x0 hE hB hn hd hz hok bA hob
  go_enter Try.func5, Try.ntmps5
  go_wp2_with fail
  generalize w.alloc (.cells #[.int .i64 (kd : Int), .int .i64 (fr : Int), .int .i64 (to : Int), .int .i64 (t : Int), .int .i64 (ix : Int), .int .i64 (lt : Int), .int .i64 (cm : Int), .int .i64 (hi : Int), .int .i64 (ro : Int), .bool bo, .slice ep en ec, .slice dp dm dc] 26) = W at *
  refine (msgMayBe_yes kd fr to t ix lt cm hi ro bo ep en ec dp dm dc es d _ (unhide HK) (unhide HN) (unhide HE)).mono ?_
  rintro e W1 ⟨rfl, b1⟩
  obtain ⟨e0, e1, e2, e3, e4, e5, e6, e7, e8, e9, e10, e11⟩ := twelve_cells ((b1.block _ (Array.getElem?_eq_some_iff.1 (unhide X0)).1).trans (unhide X0))
  have X1 := hide ((b1.block _ (Array.getElem?_eq_some_iff.1 (unhide X0)).1).trans (unhide X0))
  have E1 := hide ((unhide HE).later b1)
  have D1 := hide ((unhide HB).later b1)
  have F1 := hide ((unhide BA).trans (b1.mono (unhide BA).size))
  clear b1 c0 c1 c2 c3 c4 c5 c6 c7 c8 c9 c10 c11 BA HE HB X0
  go_wp2_with fail
  refine (msgFits_yes kd fr to t ix lt cm hi ro bo ep en ec dp dm dc es d _ (unhide HK) (unhide HN) (unhide HD) (unhide E1)).mono ?_
  rintro e W2 ⟨rfl, b2⟩
  obtain ⟨g0, g1, g2, g3, g4, g5, g6, g7, g8, g9, g10, g11⟩ := twelve_cells ((b2.block _ (Array.getElem?_eq_some_iff.1 (unhide X1)).1).trans (unhide X1))
  have E2 := hide ((unhide E1).later b2)
  have D2 := hide ((unhide D1).later b2)
  have F2 := hide ((unhide F1).trans (b2.mono (unhide F1).size))
  clear b2 e0 e1 e2 e3 e4 e5 e6 e7 e8 e9 e10 e11 F1 E1 D1 X1
  go_wp2_with fail
  refine (addMsg_calls kd fr to t ix lt cm hi ro ob bo (unhide HOB) ep en ec dp dm dc es d _ (unhide HK) (unhide HN) (unhide HD) (unhide E2) (unhide D2) (unhide HZ)).mono ?_
  rintro e W3 ⟨sp, n, c, rfl, hn3, ho3, hb3⟩
  have F3 := hide ((unhide F2).trans (hb3.mono (unhide F2).size))
  have O3 := hide (ho3.mono (unhide F2).size)
  clear hb3 ho3
  go_wp2
  go_ret2
  exact ⟨sp, n, c, rfl, hn3, unhide O3, unhide F3⟩
theorem entsE_back {l : List Nat} (hl : ∀ c ∈ l, c < 256) : ∀ {n k k' : Nat} {es : List EntN}, k ≤ l.length → entsE l n k = .ok (es, k') → l.drop k = entsB es ++ l.drop k' ∧ k' ≤ l.length ∧ ∀ e ∈ es, EntOk e.1 e.2.1 e.2.2.1 e.2.2.2
  | 0, k, k', es, hk, h => by
    simp only [entsE, Except.ok.injEq, Prod.mk.injEq] at h
    obtain ⟨rfl, rfl⟩ := h
    exact ⟨by simp [entsB], hk, by simp⟩
  | n + 1, k, k', es, hk, h => by
    rw [entsE] at h
    obtain ⟨⟨kd, t, i, d⟩, k1, h1, h⟩ := bindE_inv h
    obtain ⟨es', k2, h2, h⟩ := bindE_inv h
    simp only [Except.ok.injEq, Prod.mk.injEq] at h
    obtain ⟨rfl, rfl⟩ := h
    obtain ⟨a1, a2, a3, a4⟩ := entryE_back hl h1
    obtain ⟨b1, b2, b3⟩ := entsE_back hl a3 h2
    refine ⟨by rw [a1, b1]; simp [entsB], b2, fun e he => ?_⟩
    rcases List.mem_cons.1 he with rfl | he
    · exact a4
    · exact b3 e he
/-- Bytes that are taken for a message are just its bytes. -/
theorem msg_back {l : List Nat} (hl : ∀ c ∈ l, c < 256) {m : MsgN} (h : wholeE l (msgE l 0) = .ok m) :
    l = msgB m.kd m.fr m.to m.t m.ix m.lt m.cm m.hi m.ro m.ok m.es m.d ∧ MsgOk m.kd m.fr m.to m.t m.ix m.lt m.cm m.hi m.ro m.es m.d ∧ m.ok ≤ 1 := by
  obtain ⟨k, h0, hk⟩ := wholeE_ok h
  obtain ⟨k1, k2, k3, k4, k5, k6, k7, k8, k9, k10, n, k11, k12, q, k13, h1, h2, h3, h4, h5, h6, h7, h8, h9, h10, h11, h12, h13, h14⟩ := msgE_inv h0
  obtain ⟨a1, _, _, a4, a5⟩ := oneE_back h1
  obtain ⟨b1, _, _, b4, b5⟩ := oneE_back h2
  obtain ⟨c1, _, _, c4, c5⟩ := oneE_back h3
  obtain ⟨d1, _, _, d4, d5⟩ := oneE_back h4
  obtain ⟨e1, _, _, e4⟩ := takeE_back hl h5
  obtain ⟨f1, _, _, f4⟩ := takeE_back hl h6
  obtain ⟨g1, _, _, g4⟩ := takeE_back hl h7
  obtain ⟨i1, _, _, i4⟩ := takeE_back hl h8
  obtain ⟨j1, _, _, j4⟩ := takeE_back hl h9
  obtain ⟨l1, _, _, l4⟩ := takeE_back hl h10
  obtain ⟨n8, hn⟩ := upE_le h11
  obtain ⟨m1, _, m3, _⟩ := takeE_back hl hn
  obtain ⟨o1, o2, o3⟩ := entsE_back hl m3 h12
  obtain ⟨q8, hq⟩ := upE_le h13
  obtain ⟨p1, _, p3, _⟩ := takeE_back hl hq
  obtain ⟨r1, _, r3, r4⟩ := dataE_back p3 h14
  have hlen := entsE_length h12
  refine ⟨?_, ⟨⟨a4, a5⟩, ⟨b4, b5⟩, ⟨c4, c5⟩, e4, f4, g4, i4, j4, l4, o3, by omega, by omega⟩, d5⟩
  have hk' : l.drop k = [] := List.drop_eq_nil_of_le (by omega)
  rw [List.drop_zero] at a1
  rw [a1, b1, c1, d1, e1, f1, g1, i1, j1, l1, m1, o1, p1, r1, hk', ← r4, ← hlen]
  simp [msgB, headB, numsB, List.append_assoc]
end Go.Proofs.Ytilkginjppgcoaa
