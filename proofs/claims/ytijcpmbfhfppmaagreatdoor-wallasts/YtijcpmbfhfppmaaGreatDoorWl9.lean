/- Logs: all records of a content. -/
import Derived.Test.YtijcpmbfhfppmaaGreatDoorWl8
import Derived.Test.YtijcpmbfhfppmaaGreatDoorTent
namespace Go.Proofs.YtijcpmbfhfppmaaGreatDoor
open Go.ChangeShapes Go.WideShapes Go.ChangeAt Go.RowKit
set_option linter.unusedVariables false

def EOk (e : EntN) : Prop := EntOk e.1 e.2.1 e.2.2.1 e.2.2.2
def entsB (es : List EntN) : List Nat := es.flatMap fun e => recB 3 (entryB e.1 e.2.1 e.2.2.1 e.2.2.2)
theorem putE_yes {e : EntN} (h : EOk e) : putE (toI e) = .ok (entryB e.1 e.2.1 e.2.2.1 e.2.2.2) := by
  obtain ⟨⟨a1, a2⟩, ⟨b1, b2⟩, ⟨c1, c2⟩, d1, d2⟩ := h
  unfold putE toI
  dsimp only
  rw [if_pos (show MayE (e.1 : Int) (e.2.1 : Int) (e.2.2.1 : Int) e.2.2.2.length from ⟨by omega, by omega, by omega, by
    by_cases hk : e.1 = 1
    · right; rw [d1 hk]; rfl
    · left; omega⟩), if_pos d2]
  simp
theorem recsE_yes : ∀ (es : List EntN), (∀ e ∈ es, EOk e) → recsE (es.map toI) = .ok (entsB es)
  | [], _ => rfl
  | e :: es, h => by
    rw [List.map_cons, recsE_cons, putE_yes (h e (by simp)), recsE_yes es (fun x hx => h x (by simp [hx]))]
    rfl
/-- All records of a content, one behind the other. -/
def allB (c : Wc) : List Nat := markB c.bi c.bt ++ hardB c.ht c.hv ++ entsB c.es
structure WOk (c : Wc) : Prop where
  bi : c.bi ≤ 1099511627776
  bt : c.bt ≤ 1099511627776
  ht : c.ht ≤ 1099511627776
  hv : c.hv ≤ 9
  es : ∀ e ∈ c.es, EOk e
theorem entsB_len : ∀ (es : List EntN), (∀ e ∈ es, EOk e) → (entsB es).length ≤ es.length * 2100
  | [], _ => by simp [entsB]
  | e :: es, h => by
    have ih := entsB_len es (fun x hx => h x (by simp [hx]))
    obtain ⟨_, ⟨_, b2⟩, ⟨_, c2⟩, _, d2⟩ := h e (by simp)
    have h6 := entryB_six e.1 e.2.1 e.2.2.1 e.2.2.2 b2 c2 d2
    unfold entsB at ih ⊢
    rw [List.flatMap_cons, List.length_append, recB_length, List.length_cons]
    omega
theorem markB_len (i t : Nat) (hi : i ≤ 1099511627776) (ht : t ≤ 1099511627776) : (markB i t).length ≤ 21 := by
  unfold markB
  have := numB_six i hi
  have := numB_six t ht
  rw [recB_length, List.length_append]
  omega
theorem hardB_len (t v : Nat) (ht : t ≤ 1099511627776) (hv : v ≤ 9) : (hardB t v).length ≤ 21 := by
  unfold hardB
  have := numB_six t ht
  have := numB_six v (by omega)
  rw [recB_length, List.length_append]
  omega
section
variable {w : World} {B : Nat} {T : TypeId} {p q : List Value} {c : Wc} {ep : Option Addr} {ec : Nat} {base : Nat} {hs : List (Option Addr × Nat)}
set_option maxRecDepth 20000 in
set_option maxHeartbeats 8000000 in
theorem records_calls (h : CtAt w B T p q c ep ec) (o : Nat) (ho : p.length = o) (hE : OwnL base w ep ec c.es hs) (hk : WOk c) (hl : c.es.length ≤ 1000000) :
    Calls Tryz.prog 99 #[.pointer (some ⟨B, o, none⟩)] w fun e w' => ∃ sp n k, e = .returned (.slice sp n k) ∧ Hid ((allB c).length = n) ∧ OwnB w.heap.size w' sp k (allB c) ∧ Below w.heap.size w w' := by
  have HC := hide h
  have HO := hide ho
  have HE := hide hE
  have M1 := hide (fun W => markRecord_calls c.bi c.bt W hk.bi hk.bt)
  have H1 := hide (fun W => hardRecord_yes c.ht c.hv W hk.ht hk.hv)
  have E1 := hide (fun (W : World) (u : Below w.heap.size w W) => entryRecords_calls ep c.es.length ec (c.es.map toI) W (by rw [List.length_map]) (hE.later u).ents hl)
  rw [recsE_yes c.es hk.es] at E1
  have hl1 := markB_len c.bi c.bt hk.bi hk.bt
  have hl2 := hardB_len c.ht c.hv hk.ht hk.hv
  have hl3 := entsB_len c.es hk.es
  have AB := hide (show allB c = markB c.bi c.bt ++ hardB c.ht c.hv ++ entsB c.es from rfl)
  obtain ⟨⟨c0, c1, c2, c3, c4⟩, _⟩ := h.cells o ho
  clear h hE hk ho
  go_enter Tryz.func99, Tryz.ntmps99
  go_wp2_with fail
  go_at_call 131
  refine (unhide M1 _).mono ?_
  rintro e V1 ⟨g1, n1, rfl, hn1, o1, v1⟩
  have O1 := hide o1
  have B1 := hide v1
  have d2 := cell_later v1 c2
  have d3 := cell_later v1 c3
  have d4 := cell_later v1 c4
  clear o1 v1 c0 c1 c2 c3 c4
  go_wp2_with fail
  go_at_call 69
  refine (unhide H1 _).mono ?_
  rintro e V2 ⟨g2, n2, rfl, hn2, o2, v2⟩
  have G1 := hide (show g1 < V2.heap.size from Nat.lt_of_lt_of_le ((unhide O1).blk_lt g1 rfl).2 v2.size)
  have O1 := hide ((unhide O1).later v2)
  have Y2 := hide o2.bytes
  have B2 := hide ((unhide B1).trans (v2.mono (unhide B1).size))
  have e4 := cell_later v2 d4
  clear o2 v2 d2 d3 d4
  go_wp2_with fail
  go_at_call 65
  refine (unhide E1 _ (unhide B2)).mono ?_
  rintro e V3 ⟨v3, sp3, n3, k3, rfl, hn3, o3⟩
  have O1 := hide ((unhide O1).later v3)
  have Y2 := hide ((unhide Y2).later v3)
  have Y3 := hide o3.bytes
  have Z3 := hide (show sp3 = none → k3 = 0 from o3.toBx.nil0)
  have G3 := hide (show ∀ b off, sp3 = some ⟨b, off, none⟩ → b ≠ g1 from fun b off e => by
    have h1 := (o3.blk_lt b (by rw [e]; rfl)).1
    have h2 := unhide G1
    omega)
  have B3 := hide ((unhide B2).trans (v3.mono (unhide B2).size))
  have HS1 := hide (show (markB c.bi c.bt).length + n2 ≤ 140737488355328 by rw [← unhide hn2]; omega)
  have HS2 := hide (show (markB c.bi c.bt ++ hardB c.ht c.hv).length + n3 ≤ 140737488355328 by rw [List.length_append, ← unhide hn3]; omega)
  clear o3 v3 e4
  go_wp2_with (first
    | (have hV : W4 = W4 := rfl
       clear hV
       at_builtin
       refine wpList_append8 rfl (.tmp 31) (.tmp 32) rfl w.heap.size sp4 n4 c4 (markB c.bi c.bt ++ hardB c.ht c.hv) rfl (unhide hn4) (by exact unhide O4) sp3 n3 k3 rfl (entsB c.es) (unhide hn3) (by exact unhide Y4) (unhide Z3) (unhide HS2) (by exact (unhide B4).size) ?_
       intro sp5 n5 c5 W5 hn5 ho5 hg5 hb5
       have O5 := hide ho5
       have B5 := hide ((unhide B4).trans hb5)
       clear ho5 hg5 hb5)
    | (at_builtin
       refine wpList_append8 rfl (.tmp 29) (.tmp 30) rfl w.heap.size (some ⟨g1, 0, none⟩) n1 n1 (markB c.bi c.bt) rfl (unhide hn1) (by exact unhide O1) (some ⟨g2, 0, none⟩) n2 n2 rfl (hardB c.ht c.hv) (unhide hn2) (by exact unhide Y2) (fun h => by cases h) (unhide HS1) (by exact (unhide B3).size) ?_
       intro sp4 n4 c4 W4 hn4 ho4 hg4 hb4
       have O4 := hide ho4
       have B4 := hide ((unhide B3).trans hb4)
       have Y4 := hide (show BytesAt W4 sp3 (entsB c.es) from (unhide Y3).far hg4 (unhide G3))
       clear ho4 hg4 hb4))
  go_ret
  exact ⟨sp5, n5, c5, rfl, by rw [unhide AB]; exact hn5, by rw [unhide AB]; exact unhide O5, unhide B5⟩
end
end Go.Proofs.YtijcpmbfhfppmaaGreatDoor
