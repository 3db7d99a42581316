/- Proved: what fits a path fits all that lies below it, and a prefix fits itself; for all prefixes, paths and what stands behind; no condition. -/
import Derived.Test.YtfopobdbkbcnnaaParg
import Derived.SizedLaws
import Derived.Laws.Concat
namespace Go.Proofs.Ytfopobdbkbcnnaa.planeFits
open Go.ChangeShapes Go.WideShapes Go.ChangeAt Go.RowKit
set_option linter.unusedVariables false

theorem own : ownKnob Try.prog.godebug = none := by kernel_rfl
theorem laidOut : laidOutB Try.prog = true := by kernel_rfl

theorem fits_self (p : Tx) : fitsL p p = true := by
  unfold fitsL
  simp
theorem fits_below (p q m : Tx) (h : fitsL p q = true) : fitsL p (q ++ [47] ++ m) = true := by
  unfold fitsL at *
  simp only [Bool.and_eq_true, Bool.or_eq_true, beq_iff_eq, List.isPrefixOf_iff_prefix] at h ⊢
  obtain ⟨h1, h2⟩ := h
  refine ⟨(h1.trans (List.prefix_append q [47])).trans (List.prefix_append _ _), ?_⟩
  have hle := h1.length_le
  rcases h2 with (h2 | h2) | h2
  · right
    rw [h2, List.append_assoc, List.getElem?_append_right (Nat.le_refl _), Nat.sub_self]
    rfl
  · exact .inl (.inr h2)
  · right
    have hlt : p.length < q.length := (List.getElem?_eq_some_iff.1 h2).1
    rw [List.append_assoc, List.getElem?_append_left hlt]
    exact h2
def oneR (p : ByteArray) : List Rt := [⟨⟨#[104]⟩, p, ⟨#[112]⟩⟩]
theorem one_best (p ho q : ByteArray) : bestN ho q (oneR p) 1 = if (([104] : Tx) == ho.toList) = true ∧ fitsL p.data.toList q.data.toList = true then some 0 else none := by
  unfold bestN okR oneR
  have e : (⟨#[104]⟩ : ByteArray).toList = [104] := by rw [ByteArray.toList_eq]
  simp only [List.getD_cons_zero, e, Bool.and_eq_true]
  rfl
theorem oneR_at {w : World} {g : Nat} {p : ByteArray} (hp : p.size ≤ maxLen) (h : w.heap[g]? = some (.cells #[.string ⟨#[104]⟩, .string p, .string ⟨#[112]⟩] 30 (0, 0))) : RtsAt w (some ⟨g, 0, none⟩) (oneR p) := by
  refine ⟨?_, fun i hi => ⟨g, 0, rfl, ?_⟩⟩
  · intro t ht
    simp only [oneR, List.mem_singleton] at ht
    subst ht
    exact ⟨show (⟨#[104]⟩ : ByteArray).size ≤ maxLen by decide, hp, show (⟨#[112]⟩ : ByteArray).size ≤ maxLen by decide⟩
  · match i, hi with
    | 0, _ => exact ⟨fcell0 h 0 _ rfl, fcell0 h 1 _ rfl, fcell0 h 2 _ rfl⟩
    | i + 1, hi => simp [oneR] at hi
def gotV (p : ByteArray) : Bool → Value
  | true => .tuple #[.agg #[.string ⟨#[104]⟩, .string p, .string ⟨#[112]⟩], .bool true]
  | false => .tuple #[.agg #[.string ⟨#[]⟩, .string ⟨#[]⟩, .string ⟨#[]⟩], .bool false]
def gotR (p : ByteArray) : Bool → Array Value
  | true => #[.string ⟨#[104]⟩, .string p, .string ⟨#[112]⟩]
  | false => #[.string ⟨#[]⟩, .string ⟨#[]⟩, .string ⟨#[]⟩]
theorem one_find {w : World} {g : Nat} {p : ByteArray} (hp : p.size ≤ maxLen) (h : w.heap[g]? = some (.cells #[.string ⟨#[104]⟩, .string p, .string ⟨#[112]⟩] 30 (0, 0))) (ho q : ByteArray) (b : Bool) (hb : ((([104] : Tx) == ho.toList) && fitsL p.data.toList q.data.toList) = b) :
    Calls Try.prog 14 #[.agg #[.int .i64 0, .slice (some ⟨g, 0, none⟩) 1 1, .slice none 0 0], .string ho, .string q] w fun e w' => e = .returned (gotV p b) ∧ Below w.heap.size w w' := by
  refine (find_calls (oneR_at hp h) 1 1 rfl (by decide) 0 none 0 0 ho q).mono ?_
  rintro e w' ⟨rfl, hb'⟩
  refine ⟨?_, hb'⟩
  rw [one_best]
  cases b with
  | true => rw [if_pos (by simpa using hb)]; rfl
  | false => rw [if_neg (by simpa using hb)]; rfl
set_option maxRecDepth 20000 in
set_option maxHeartbeats 4000000 in
theorem walk (p q m : ByteArray) (w : World) (hp : p.size ≤ maxLen) (_rp : p.size ≤ 140737488355328) (_hq : q.size ≤ maxLen) (rq : q.size ≤ 140737488355328) (_hm : m.size ≤ maxLen) (rm : m.size ≤ 140737488355328) :
    Calls Try.prog 5 #[.string p, .string q, .string m] w fun e w' => e = .returned (.bool true) ∧ Below w.heap.size w w' := by
  have HP := hide hp
  have e47 : (⟨#[47]⟩ : ByteArray).size = 1 := rfl
  have h104 : (⟨#[104]⟩ : ByteArray).toList = [104] := by rw [ByteArray.toList_eq]
  have h103 : (⟨#[103]⟩ : ByteArray).toList = [103] := by rw [ByteArray.toList_eq]
  have b1 : Below w.heap.size w (w.alloc (.cells #[.string ⟨#[104]⟩, .string p, .string ⟨#[112]⟩] 30)) := (Below.refl _ _).alloc (Nat.le_refl _) _
  have b2 := b1.alloc b1.size (.cells #[.int .i64 0, .slice (some ⟨w.heap.size, 0, none⟩) 1 1, .slice none 0 0] 25)
  have s1 : (w.alloc (.cells #[.string ⟨#[104]⟩, .string p, .string ⟨#[112]⟩] 30)).heap.size = w.heap.size + 1 := by simp
  have X0 := hide (show ((w.alloc (.cells #[.string ⟨#[104]⟩, .string p, .string ⟨#[112]⟩] 30)).alloc (.cells #[.int .i64 0, .slice (some ⟨w.heap.size, 0, none⟩) 1 1, .slice none 0 0] 25)).heap[w.heap.size]? = some (.cells #[.string ⟨#[104]⟩, .string p, .string ⟨#[112]⟩] 30 (0, 0)) by rw [Below.heap_alloc _ _ _ (by omega)]; exact heap_new _ _)
  have Y0 := hide (show ((w.alloc (.cells #[.string ⟨#[104]⟩, .string p, .string ⟨#[112]⟩] 30)).alloc (.cells #[.int .i64 0, .slice (some ⟨w.heap.size, 0, none⟩) 1 1, .slice none 0 0] 25)).heap[w.heap.size + 1]? = some (.cells #[.int .i64 0, .slice (some ⟨w.heap.size, 0, none⟩) 1 1, .slice none 0 0] 25 (0, 0)) by rw [← s1]; exact heap_new _ _)
  have B0 := hide b2
  have FN := hide (show ∀ (W : World) (ho r : ByteArray) (b : Bool), Below (w.heap.size + 2) ((w.alloc (.cells #[.string ⟨#[104]⟩, .string p, .string ⟨#[112]⟩] 30)).alloc (.cells #[.int .i64 0, .slice (some ⟨w.heap.size, 0, none⟩) 1 1, .slice none 0 0] 25)) W → ((([104] : Tx) == ho.toList) && fitsL p.data.toList r.data.toList) = b → Calls Try.prog 14 #[.agg #[.int .i64 0, .slice (some ⟨w.heap.size, 0, none⟩) 1 1, .slice none 0 0], .string ho, .string r] W fun e w' => e = .returned (gotV p b) ∧ Below W.heap.size W w' from fun W ho r b hb hh => one_find hp ((hb.block _ (by omega)).trans (unhide X0)) ho r b hh)
  have CF := hide (show ∀ W : World, Below (w.heap.size + 2) ((w.alloc (.cells #[.string ⟨#[104]⟩, .string p, .string ⟨#[112]⟩] 30)).alloc (.cells #[.int .i64 0, .slice (some ⟨w.heap.size, 0, none⟩) 1 1, .slice none 0 0] 25)) W → W.cell? ⟨w.heap.size + 1, 0, none⟩ = some (.int .i64 0) ∧ W.cell? ⟨w.heap.size + 1, 1, none⟩ = some (.slice (some ⟨w.heap.size, 0, none⟩) 1 1) ∧ W.cell? ⟨w.heap.size + 1, 2, none⟩ = some (.slice none 0 0) from fun W hb => ⟨fcell0 ((hb.block _ (by omega)).trans (unhide Y0)) 0 _ rfl, fcell0 ((hb.block _ (by omega)).trans (unhide Y0)) 1 _ rfl, fcell0 ((hb.block _ (by omega)).trans (unhide Y0)) 2 _ rfl⟩)
  have T1 := hide (show ((([104] : Tx) == (⟨#[104]⟩ : ByteArray).toList) && fitsL p.data.toList p.data.toList) = true by rw [h104, fits_self]; rfl)
  have T4 := hide (show ((([104] : Tx) == (⟨#[103]⟩ : ByteArray).toList) && fitsL p.data.toList q.data.toList) = false by rw [h103]; rfl)
  have T2 := hide (show ∀ b, fitsL p.data.toList q.data.toList = b → ((([104] : Tx) == (⟨#[104]⟩ : ByteArray).toList) && fitsL p.data.toList q.data.toList) = b from fun b hb => by rw [h104, hb]; rfl)
  have T3 := hide (show ∀ b, fitsL p.data.toList (q ++ ⟨#[47]⟩ ++ m).data.toList = b → ((([104] : Tx) == (⟨#[104]⟩ : ByteArray).toList) && fitsL p.data.toList (q ++ ⟨#[47]⟩ ++ m).data.toList) = b from fun b hb => by rw [h104, hb]; rfl)
  have FB := hide (show fitsL p.data.toList q.data.toList = true → fitsL p.data.toList (q ++ ⟨#[47]⟩ ++ m).data.toList = true from fun h => by
    have := fits_below p.data.toList q.data.toList m.data.toList h
    simpa [ByteArray.data_append] using this)
  have SZ := hide (show ((w.alloc (.cells #[.string ⟨#[104]⟩, .string p, .string ⟨#[112]⟩] 30)).alloc (.cells #[.int .i64 0, .slice (some ⟨w.heap.size, 0, none⟩) 1 1, .slice none 0 0] 25)).heap.size = w.heap.size + 2 by simp)
  clear b1 b2 s1 h104 h103 hp
  cases hq1 : fitsL p.data.toList q.data.toList with
  | true =>
    go_enter Try.func5, Try.ntmps5
    go_wp2_with fail
    have E0 := hide (unhide FN _ ⟨#[104]⟩ p true (Below.refl _ _) (unhide T1))
    generalize ((w.alloc (.cells #[.string ⟨#[104]⟩, .string p, .string ⟨#[112]⟩] 30)).alloc (.cells #[.int .i64 0, .slice (some ⟨w.heap.size, 0, none⟩) 1 1, .slice none 0 0] 25)) = V at *
    unfold gotV at E0
    refine (unhide E0).mono ?_
    rintro e V1 ⟨rfl, v1⟩
    have D1 := hide (show Below (w.heap.size + 2) V V1 from v1.mono (Nat.le_of_eq (unhide SZ).symm))
    have R1 := hide ((unhide D1).alloc (Nat.le_trans (Nat.le_of_eq (unhide SZ).symm) (unhide D1).size) (.cells #[.string ⟨#[104]⟩, .string p, .string ⟨#[112]⟩] 30))
    obtain ⟨x0, x1, x2⟩ := unhide CF _ (unhide R1)
    clear v1 E0
    go_wp2_with fail
    have E2 := hide (unhide FN _ ⟨#[104]⟩ q true (unhide R1) (unhide T2 _ hq1))
    unfold gotV at E2
    refine (unhide E2).mono ?_
    rintro e V2 ⟨rfl, v2⟩
    have D2 := hide ((unhide R1).trans (v2.mono (Nat.le_trans (Nat.le_of_eq (unhide SZ).symm) (unhide R1).size)))
    have R2 := hide ((unhide D2).alloc (Nat.le_trans (Nat.le_of_eq (unhide SZ).symm) (unhide D2).size) (.cells #[.string ⟨#[104]⟩, .string p, .string ⟨#[112]⟩] 30))
    clear x0 x1 x2
    obtain ⟨x0, x1, x2⟩ := unhide CF _ (unhide R2)
    clear v2 E2
    go_wp2_with fail
    have E3 := hide (unhide FN _ ⟨#[104]⟩ (q ++ ⟨#[47]⟩ ++ m) true (unhide R2) (unhide T3 _ (unhide FB hq1)))
    unfold gotV at E3
    refine (unhide E3).mono ?_
    rintro e V3 ⟨rfl, v3⟩
    have D3 := hide ((unhide R2).trans (v3.mono (Nat.le_trans (Nat.le_of_eq (unhide SZ).symm) (unhide R2).size)))
    have R3 := hide ((unhide D3).alloc (Nat.le_trans (Nat.le_of_eq (unhide SZ).symm) (unhide D3).size) (.cells #[.string ⟨#[104]⟩, .string p, .string ⟨#[112]⟩] 30))
    clear x0 x1 x2
    obtain ⟨x0, x1, x2⟩ := unhide CF _ (unhide R3)
    clear v3 E3
    go_wp2_with fail
    have E4 := hide (unhide FN _ ⟨#[103]⟩ q false (unhide R3) (unhide T4))
    unfold gotV at E4
    refine (unhide E4).mono ?_
    rintro e V4 ⟨rfl, v4⟩
    have D4 := hide ((unhide R3).trans (v4.mono (Nat.le_trans (Nat.le_of_eq (unhide SZ).symm) (unhide R3).size)))
    have R4 := hide ((unhide D4).alloc (Nat.le_trans (Nat.le_of_eq (unhide SZ).symm) (unhide D4).size) (.cells #[.string ⟨#[]⟩, .string ⟨#[]⟩, .string ⟨#[]⟩] 30))
    clear x0 x1 x2
    obtain ⟨x0, x1, x2⟩ := unhide CF _ (unhide R4)
    clear v4 E4
    go_wp2_with fail
    refine (live10_calls _).mono ?_
    rintro e V5 ⟨rfl, v5⟩
    have D5 := hide ((unhide B0).trans (((unhide R4).trans (v5.mono (Nat.le_trans (Nat.le_of_eq (unhide SZ).symm) (unhide R4).size))).mono (by omega)))
    clear v5
    go_wp2
    go_ret
    exact ⟨rfl, unhide D5⟩
  | false =>
    cases hq3 : fitsL p.data.toList (q ++ ⟨#[47]⟩ ++ m).data.toList with
    | true =>
      go_enter Try.func5, Try.ntmps5
      go_wp2_with fail
      have E0 := hide (unhide FN _ ⟨#[104]⟩ p true (Below.refl _ _) (unhide T1))
      generalize ((w.alloc (.cells #[.string ⟨#[104]⟩, .string p, .string ⟨#[112]⟩] 30)).alloc (.cells #[.int .i64 0, .slice (some ⟨w.heap.size, 0, none⟩) 1 1, .slice none 0 0] 25)) = V at *
      unfold gotV at E0
      refine (unhide E0).mono ?_
      rintro e V1 ⟨rfl, v1⟩
      have D1 := hide (show Below (w.heap.size + 2) V V1 from v1.mono (Nat.le_of_eq (unhide SZ).symm))
      have R1 := hide ((unhide D1).alloc (Nat.le_trans (Nat.le_of_eq (unhide SZ).symm) (unhide D1).size) (.cells #[.string ⟨#[104]⟩, .string p, .string ⟨#[112]⟩] 30))
      obtain ⟨x0, x1, x2⟩ := unhide CF _ (unhide R1)
      clear v1 E0
      go_wp2_with fail
      have E2 := hide (unhide FN _ ⟨#[104]⟩ q false (unhide R1) (unhide T2 _ hq1))
      unfold gotV at E2
      refine (unhide E2).mono ?_
      rintro e V2 ⟨rfl, v2⟩
      have D2 := hide ((unhide R1).trans (v2.mono (Nat.le_trans (Nat.le_of_eq (unhide SZ).symm) (unhide R1).size)))
      have R2 := hide ((unhide D2).alloc (Nat.le_trans (Nat.le_of_eq (unhide SZ).symm) (unhide D2).size) (.cells #[.string ⟨#[]⟩, .string ⟨#[]⟩, .string ⟨#[]⟩] 30))
      clear x0 x1 x2
      obtain ⟨x0, x1, x2⟩ := unhide CF _ (unhide R2)
      clear v2 E2
      go_wp2_with fail
      have E3 := hide (unhide FN _ ⟨#[104]⟩ (q ++ ⟨#[47]⟩ ++ m) true (unhide R2) (unhide T3 _ hq3))
      unfold gotV at E3
      refine (unhide E3).mono ?_
      rintro e V3 ⟨rfl, v3⟩
      have D3 := hide ((unhide R2).trans (v3.mono (Nat.le_trans (Nat.le_of_eq (unhide SZ).symm) (unhide R2).size)))
      have R3 := hide ((unhide D3).alloc (Nat.le_trans (Nat.le_of_eq (unhide SZ).symm) (unhide D3).size) (.cells #[.string ⟨#[104]⟩, .string p, .string ⟨#[112]⟩] 30))
      clear x0 x1 x2
      obtain ⟨x0, x1, x2⟩ := unhide CF _ (unhide R3)
      clear v3 E3
      go_wp2_with fail
      have E4 := hide (unhide FN _ ⟨#[103]⟩ q false (unhide R3) (unhide T4))
      unfold gotV at E4
      refine (unhide E4).mono ?_
      rintro e V4 ⟨rfl, v4⟩
      have D4 := hide ((unhide R3).trans (v4.mono (Nat.le_trans (Nat.le_of_eq (unhide SZ).symm) (unhide R3).size)))
      have R4 := hide ((unhide D4).alloc (Nat.le_trans (Nat.le_of_eq (unhide SZ).symm) (unhide D4).size) (.cells #[.string ⟨#[]⟩, .string ⟨#[]⟩, .string ⟨#[]⟩] 30))
      clear x0 x1 x2
      obtain ⟨x0, x1, x2⟩ := unhide CF _ (unhide R4)
      clear v4 E4
      go_wp2_with fail
      refine (live10_calls _).mono ?_
      rintro e V5 ⟨rfl, v5⟩
      have D5 := hide ((unhide B0).trans (((unhide R4).trans (v5.mono (Nat.le_trans (Nat.le_of_eq (unhide SZ).symm) (unhide R4).size))).mono (by omega)))
      clear v5
      go_wp2
      go_ret
      exact ⟨rfl, unhide D5⟩
    | false =>
      go_enter Try.func5, Try.ntmps5
      go_wp2_with fail
      have E0 := hide (unhide FN _ ⟨#[104]⟩ p true (Below.refl _ _) (unhide T1))
      generalize ((w.alloc (.cells #[.string ⟨#[104]⟩, .string p, .string ⟨#[112]⟩] 30)).alloc (.cells #[.int .i64 0, .slice (some ⟨w.heap.size, 0, none⟩) 1 1, .slice none 0 0] 25)) = V at *
      unfold gotV at E0
      refine (unhide E0).mono ?_
      rintro e V1 ⟨rfl, v1⟩
      have D1 := hide (show Below (w.heap.size + 2) V V1 from v1.mono (Nat.le_of_eq (unhide SZ).symm))
      have R1 := hide ((unhide D1).alloc (Nat.le_trans (Nat.le_of_eq (unhide SZ).symm) (unhide D1).size) (.cells #[.string ⟨#[104]⟩, .string p, .string ⟨#[112]⟩] 30))
      obtain ⟨x0, x1, x2⟩ := unhide CF _ (unhide R1)
      clear v1 E0
      go_wp2_with fail
      have E2 := hide (unhide FN _ ⟨#[104]⟩ q false (unhide R1) (unhide T2 _ hq1))
      unfold gotV at E2
      refine (unhide E2).mono ?_
      rintro e V2 ⟨rfl, v2⟩
      have D2 := hide ((unhide R1).trans (v2.mono (Nat.le_trans (Nat.le_of_eq (unhide SZ).symm) (unhide R1).size)))
      have R2 := hide ((unhide D2).alloc (Nat.le_trans (Nat.le_of_eq (unhide SZ).symm) (unhide D2).size) (.cells #[.string ⟨#[]⟩, .string ⟨#[]⟩, .string ⟨#[]⟩] 30))
      clear x0 x1 x2
      obtain ⟨x0, x1, x2⟩ := unhide CF _ (unhide R2)
      clear v2 E2
      go_wp2_with fail
      have E3 := hide (unhide FN _ ⟨#[104]⟩ (q ++ ⟨#[47]⟩ ++ m) false (unhide R2) (unhide T3 _ hq3))
      unfold gotV at E3
      refine (unhide E3).mono ?_
      rintro e V3 ⟨rfl, v3⟩
      have D3 := hide ((unhide R2).trans (v3.mono (Nat.le_trans (Nat.le_of_eq (unhide SZ).symm) (unhide R2).size)))
      have R3 := hide ((unhide D3).alloc (Nat.le_trans (Nat.le_of_eq (unhide SZ).symm) (unhide D3).size) (.cells #[.string ⟨#[]⟩, .string ⟨#[]⟩, .string ⟨#[]⟩] 30))
      clear x0 x1 x2
      obtain ⟨x0, x1, x2⟩ := unhide CF _ (unhide R3)
      clear v3 E3
      go_wp2_with fail
      have E4 := hide (unhide FN _ ⟨#[103]⟩ q false (unhide R3) (unhide T4))
      unfold gotV at E4
      refine (unhide E4).mono ?_
      rintro e V4 ⟨rfl, v4⟩
      have D4 := hide ((unhide R3).trans (v4.mono (Nat.le_trans (Nat.le_of_eq (unhide SZ).symm) (unhide R3).size)))
      have R4 := hide ((unhide D4).alloc (Nat.le_trans (Nat.le_of_eq (unhide SZ).symm) (unhide D4).size) (.cells #[.string ⟨#[]⟩, .string ⟨#[]⟩, .string ⟨#[]⟩] 30))
      clear x0 x1 x2
      obtain ⟨x0, x1, x2⟩ := unhide CF _ (unhide R4)
      clear v4 E4
      go_wp2_with fail
      refine (live10_calls _).mono ?_
      rintro e V5 ⟨rfl, v5⟩
      have D5 := hide ((unhide B0).trans (((unhide R4).trans (v5.mono (Nat.le_trans (Nat.le_of_eq (unhide SZ).symm) (unhide R4).size))).mono (by omega)))
      clear v5
      go_wp2
      go_ret
      exact ⟨rfl, unhide D5⟩

set_option maxRecDepth 100000 in
theorem lifted (os : Os) (started : os.Started) (H : Type) (enc : TypeId × Value → H) :
    ReturnsInHanded {} Try.checked os 5 .any (Rows.planeFitsSpec.pre6 enc Try.prog Try.f5 Rows.planeFitsRow.domain false) (Rows.planeFitsSpec.post enc Try.prog Try.f5 false true false false) := by
  refine returnsInHanded_of_change_sized (C := Try.checked) own started (by kernel_rfl) Try.func5
    (ChangeSpec.witness6 (enc := enc) (C := Try.checked) false ⟨#[], #[.string ⟨#[]⟩, .string ⟨#[]⟩, .string ⟨#[]⟩], []⟩ 8 (by kernel_rfl) (by kernel_rfl) (by kernel_rfl) (by kernel_rfl)) ?_
  intro W base args ds gs before hval0 hW hcnd hsz _
  have hval : ∀ (j : Nat) t v, Try.f5.params[j]? = some t → args[j]? = some v → Value.okWide Try.prog W .any base t v := hval0
  have hW' := hW
  obtain ⟨p, q, hA0, hV, rfl, hfz, hnd⟩ := hW
  have hA : DataW.TrodAll enc Try.prog W 0 (fun _ => true) true Try.f5.params.toList args.toList ds p := hA0
  rw [Try.params5] at hA hval
  obtain ⟨v0, vs0, d0, ds0, p0, q0, hargs, rfl, rfl, h0, r0⟩ := trodAll_cons hA
  obtain ⟨v1, vs1, d1, ds1, p1, q1, rfl, rfl, rfl, h1, r1⟩ := trodAll_cons r0
  obtain ⟨v2, vs2, d2, ds2, p2, q2, rfl, rfl, rfl, h2, r2⟩ := trodAll_cons r1
  obtain ⟨rfl, rfl, rfl⟩ := trodAll_nil r2
  obtain rfl : args = #[v0, v1, v2] := by cases args; simp_all
  obtain ⟨rfl, rfl⟩ := trodVars_none hV
  obtain ⟨n0, rfl, rfl, rfl, hn0⟩ := ChangeMaps.open_string Try.underlying9 (hval 0 9 v0 rfl rfl) h0
  have hr0 : n0.size ≤ 140737488355328 := by
    have := sized_string hsz (j := 0) rfl rfl
    simp [reachBytes] at this
    omega
  obtain ⟨n1, rfl, rfl, rfl, hn1⟩ := ChangeMaps.open_string Try.underlying9 (hval 1 9 v1 rfl rfl) h1
  have hr1 : n1.size ≤ 140737488355328 := by
    have := sized_string hsz (j := 1) rfl rfl
    simp [reachBytes] at this
    omega
  obtain ⟨n2, rfl, rfl, rfl, hn2⟩ := ChangeMaps.open_string Try.underlying9 (hval 2 9 v2 rfl rfl) h2
  have hr2 : n2.size ≤ 140737488355328 := by
    have := sized_string hsz (j := 2) rfl rfl
    simp [reachBytes] at this
    omega
  clear hA0 hval0
  refine (walk n0 n1 n2 W hn0 hr0 hn1 hr1 hn2 hr2).mono fun e W' ⟨he, bel⟩ => ?_
  subst he
  exact ⟨_, rfl, _, _, _, [], _, [], hW', trodAll_mk1 (shut_bool Try.underlying4 _), (trodAll_cons_mk (ChangeMaps.shut_string Try.underlying9 hn0) (trodAll_cons_mk (ChangeMaps.shut_string Try.underlying9 hn1) (trodAll_cons_mk (ChangeMaps.shut_string Try.underlying9 hn2) trodAll_mk0))), rfl, bel.frame _, fun h => by cases h⟩

theorem proved : Rows.PlaneFitsSaid :=
  OpenClaim.holds_of_wide 5 Try.f5 rfl rfl rfl rfl rfl rfl rfl ⟨rfl, rfl, rfl, rfl, rfl⟩ rfl rfl rfl rfl rfl (by kernel_rfl) Try.func5 (by kernel_rfl)
    (of_decide_eq_true (by kernel_rfl)) (by unfold Func.isWrapper; first | (rw [if_pos (by decide +kernel)]; kernel_rfl) | (rw [if_neg (by decide +kernel)]; exact ⟨rfl, rfl⟩))
    (fun os started H enc _ => lifted os started H enc)
end Go.Proofs.Ytfopobdbkbcnnaa.planeFits
namespace Go.Proofs.Ytfopobdbkbcnnaa
theorem planeFits_holds : Rows.PlaneFitsSaid := planeFits.proved
#print axioms planeFits_holds
end Go.Proofs.Ytfopobdbkbcnnaa
