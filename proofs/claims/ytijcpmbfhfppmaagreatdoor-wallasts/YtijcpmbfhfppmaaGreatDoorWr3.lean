/- Logs: records of entries. -/
import Derived.Test.YtijcpmbfhfppmaaGreatDoorWr2
import Derived.Test.YtijcpmbfhfppmaaGreatDoorCpy
namespace Go.Proofs.YtijcpmbfhfppmaaGreatDoor
open Go.ChangeShapes Go.WideShapes Go.ChangeAt Go.RowKit
set_option linter.unusedVariables false

instance (k t i : Int) (n : Nat) : Decidable (MayE k t i n) := by unfold MayE; infer_instance
/-- An entry's bytes, or the error. -/
def putE (e : EntI) : Except Nat (List Nat) := if MayE e.1 e.2.1 e.2.2.1 e.2.2.2.length then (if e.2.2.2.length ≤ 2048 then .ok (entryB e.1.toNat e.2.1.toNat e.2.2.1.toNat e.2.2.2) else .error 6) else .error 2
/-- Records of entries, or the first one's error that has one. -/
def recsE : List EntI → Except Nat (List Nat)
  | [] => .ok []
  | e :: r => match putE e with
    | .error x => .error x
    | .ok b => match recsE r with
      | .error x => .error x
      | .ok l => .ok (recB 3 b ++ l)
theorem recsE_cons (e : EntI) (r : List EntI) : recsE (e :: r) = (match putE e with
    | .error x => .error x
    | .ok b => match recsE r with
      | .error x => .error x
      | .ok l => .ok (recB 3 b ++ l)) := rfl
theorem recsE_app : ∀ (a b : List EntI) (l : List Nat), recsE a = .ok l → recsE (a ++ b) = (match recsE b with
    | .error x => .error x
    | .ok m => .ok (l ++ m))
  | [], b, l, h => by
    cases h
    rw [List.nil_append]
    cases recsE b <;> rfl
  | e :: r, b, l, h => by
    rw [List.cons_append, recsE_cons]
    rw [recsE_cons] at h
    cases hp : putE e with
    | error x => rw [hp] at h; cases h
    | ok c =>
      rw [hp] at h
      dsimp only at h ⊢
      cases hr : recsE r with
      | error x => rw [hr] at h; cases h
      | ok m =>
        rw [hr] at h
        cases h
        rw [recsE_app r b m hr]
        cases recsE b with
        | error x => rfl
        | ok q => dsimp only; rw [List.append_assoc]
theorem recsE_err (a : List EntI) (e : EntI) (b : List EntI) (l : List Nat) (x : Nat) (h : recsE a = .ok l) (hp : putE e = .error x) : recsE (a ++ e :: b) = .error x := by
  rw [recsE_app a _ l h, recsE_cons, hp]
theorem recsE_more (a : List EntI) (e : EntI) (l c : List Nat) (h : recsE a = .ok l) (hp : putE e = .ok c) : recsE (a ++ [e]) = .ok (l ++ recB 3 c) := by
  rw [recsE_app a _ l h, recsE_cons, hp]
  dsimp only [recsE]
  rw [List.append_nil]
theorem entryB_six (k t i : Nat) (d : List Nat) (ht : t ≤ 1099511627776) (hi : i ≤ 1099511627776) (hd : d.length ≤ 2048) : (entryB k t i d).length ≤ 2067 := by
  unfold entryB
  have h1 := numB_six t ht
  have h2 := numB_six i hi
  have h3 := numB_six d.length (by omega)
  simp only [List.length_cons, List.length_append]
  omega
theorem putE_ok {e : EntI} {b : List Nat} (h : putE e = .ok b) : ∃ k t i : Nat, e.1 = k ∧ e.2.1 = t ∧ e.2.2.1 = i ∧ MayE k t i e.2.2.2.length ∧ e.2.2.2.length ≤ 2048 ∧ b = entryB k t i e.2.2.2 ∧ b.length ≤ 2067 := by
  unfold putE at h
  split at h
  · rename_i hm
    split at h
    · rename_i hl
      cases h
      have hm' := hm
      obtain ⟨⟨a1, a2⟩, ⟨b1, b2⟩, ⟨c1, c2⟩, _⟩ := hm'
      refine ⟨e.1.toNat, e.2.1.toNat, e.2.2.1.toNat, by omega, by omega, by omega, ?_, hl, rfl, entryB_six _ _ _ _ (by omega) (by omega) hl⟩
      rw [show ((e.1.toNat : Nat) : Int) = e.1 by omega, show ((e.2.1.toNat : Nat) : Int) = e.2.1 by omega, show ((e.2.2.1.toNat : Nat) : Int) = e.2.2.1 by omega]
      exact hm
    · cases h
  · cases h
/-- How entryRecords ends. -/
def RecEnd (w : World) (r : Except Nat (List Nat)) (e : Ending) (w' : World) : Prop := Below w.heap.size w w' ∧ (match r with
  | .ok l => ∃ sp n c, e = .returned (.tuple #[.slice sp n c, .int .i64 0]) ∧ Hid (l.length = n) ∧ OwnB w.heap.size w' sp c l
  | .error x => e = .returned (.tuple #[.slice none 0 0, .int .i64 (x : Int)]))
set_option maxRecDepth 20000 in
set_option maxHeartbeats 8000000 in
theorem entryRecords_calls (a : Option Addr) (n c : Nat) (es : List EntI) (w : World) (hn : es.length = n) (hb : EntsAt w a es) (hl : n ≤ 1000000) :
    Calls Tryz.prog 65 #[.slice a n c] w (RecEnd w (recsE es)) := by
  have HE := hide hb
  have HN := hide hn
  clear hb hn
  have FEo := hide (show ∀ l, recsE es = .ok l → ∀ sp m c' W, Hid (l.length = m) → OwnB w.heap.size W sp c' l → Below w.heap.size w W → RecEnd w (recsE es) (.returned (.tuple #[.slice sp m c', .int .i64 0])) W from fun l h sp m c' W h1 h2 h3 => by rw [h]; exact ⟨h3, sp, m, c', rfl, h1, h2⟩)
  have FEe := hide (show ∀ (x : Nat) W, recsE es = .error x → Below w.heap.size w W → RecEnd w (recsE es) (.returned (.tuple #[.slice none 0 0, .int .i64 (x : Int)])) W from fun x W h h3 => by rw [h]; exact ⟨h3, rfl⟩)
  go_enter Tryz.func65, Tryz.ntmps65
  go_wp2_with fail
  go_loopw [4, 11] (fun v i wr => ∃ (j : Nat) (l : List Nat) (sp : Option Addr) (m k : Nat), j ≤ n ∧ i = .int .i64 (j : Int) ∧ v = .slice sp m k ∧ Hid (recsE (es.take j) = .ok l) ∧ Hid (l.length = m) ∧ Hid (m ≤ j * 2100) ∧ Hid (OwnB w.heap.size wr sp k l) ∧ Hid (Below w.heap.size w wr)) (fun _ i _ => n - (intOf i).toNat)
  case atStart => exact ⟨0, [], none, 0, 0, by omega, rfl, rfl, hide rfl, hide rfl, hide (by omega), hide (OwnB.ofNil _ _), hide (Below.refl _ _)⟩
  case round =>
    obtain ⟨j, l, sp, m, k, hj, rfl, rfl, HR, HM, HB, O, B⟩ := hrel
    by_cases hjn : j < n
    · have y0 : (0 : Int) ≤ (j : Int) := by omega
      have y1 : (j : Int) < (n : Int) := by omega
      have hjl : j < es.length := by rw [unhide HN]; exact hjn
      obtain ⟨b, off, dp, dc, rfl, q0, q1, q2, q3, q4, q5⟩ := (unhide HE).cell j hjl
      have p0 := cell_later (unhide B) q0
      have p1 := cell_later (unhide B) q1
      have p2 := cell_later (unhide B) q2
      have p3 := cell_later (unhide B) q3
      have Y := hide (q4.later (unhide B))
      have Z := hide q5
      have TK := hide (show es = es.take j ++ es[j] :: es.drop (j + 1) by simp)
      have TS := hide (show es.take (j + 1) = es.take j ++ [es[j]] by rw [List.take_succ_eq_append_getElem hjl])
      clear q0 q1 q2 q3 q4 q5
      generalize es[j] = e at *
      obtain ⟨ek, et, ei, ed⟩ := e
      dsimp only at p0 p1 p2 p3 Y
      have v1 : Below wr.heap.size wr (wr.alloc (entB ek et ei dp ed.length dc)) := (Below.refl _ _).alloc (Nat.le_refl _) _
      have X1 := heap_new wr (entB ek et ei dp ed.length dc)
      obtain ⟨e0, e1, e2, e3⟩ := entB_cells X1
      have B1 := hide ((unhide B).trans (v1.mono (unhide B).size))
      have O1 := hide ((unhide O).later v1)
      have Y1 := hide ((unhide Y).later v1)
      clear v1 X1
      cases hp : putE (ek, et, ei, ed) with
      | error x =>
        have PE := hide (show ∀ W, Calls Tryz.prog 103 #[entV ek et ei dp ed.length dc] W fun e w' => e = .returned (.tuple #[.slice none 0 0, .int .i64 (x : Int)]) ∧ Below W.heap.size W w' from fun W => by
          unfold putE at hp
          dsimp only at hp
          by_cases hm : MayE ek et ei ed.length
          · rw [if_pos hm] at hp
            by_cases hl2 : ed.length ≤ 2048
            · rw [if_pos hl2] at hp; cases hp
            · rw [if_neg hl2] at hp
              cases hp
              exact putEntry_long ek et ei dp ed.length dc W hm (by omega)
          · rw [if_neg hm] at hp
            cases hp
            exact putEntry_no ek et ei dp ed.length dc W hm)
        have hx0 : ¬ (x : Int) = 0 := by
          unfold putE at hp
          split at hp
          · split at hp
            · cases hp
            · cases hp; omega
          · cases hp; omega
        have hx1 : ((x : Int) == 0) = false := by simp; omega
        have ER := hide (show recsE es = .error x by rw [unhide TK]; exact recsE_err _ _ _ l x (unhide HR) hp)
        unfold entV at PE
        clear hp
        go_wp2_with fail
        clear e0 e1 e2 e3 p0 p1 p2 p3
        generalize wr.alloc _ = W1 at *
        go_at_call 103
        refine (unhide PE _).mono ?_
        rintro r W2 ⟨rfl, b2⟩
        have FE := hide (unhide FEe x W2 (unhide ER) ((unhide B1).trans (b2.mono (unhide B1).size)))
        clear b2
        go_wp2
        go_ret2
        exact unhide FE
      | ok bb =>
        obtain ⟨kk, tt, ii, rfl, rfl, rfl, hm, hl2, hbb, hbl⟩ := putE_ok hp
        dsimp only at hm hl2 hbb
        subst hbb
        have PE := hide (fun W (hB : BytesAt W dp ed) => putEntry_yes kk tt ii dp ed.length dc ed W hm rfl hB (unhide Z) hl2)
        have ER := hide (show recsE (es.take (j + 1)) = .ok (l ++ recB 3 (entryB kk tt ii ed)) by rw [unhide TS]; exact recsE_more _ _ l _ (unhide HR) hp)
        unfold entV at PE
        clear hp hm hl2
        generalize entryB kk tt ii ed = bb at *
        go_wp2_with fail
        clear e0 e1 e2 e3 p0 p1 p2 p3
        generalize wr.alloc _ = W1 at *
        go_at_call 103
        refine (unhide PE _ (unhide Y1)).mono ?_
        rintro r W2 ⟨sp2, n2, k2, rfl, hn2, o2, b2⟩
        have B2 := hide ((unhide B1).trans (b2.mono (unhide B1).size))
        have O2 := hide ((unhide O1).later b2)
        have FC := hide (framed_calls 3 sp2 n2 k2 bb W2 (by omega) (unhide hn2) (by exact o2.bytes) (show sp2 = none → k2 = 0 from (show Bx W1.heap.size W2 sp2 k2 bb from o2.toBx).nil0) (by rw [← unhide hn2]; omega))
        clear b2 o2
        go_wp2_with fail
        go_at_call 104
        refine (unhide FC).mono ?_
        rintro r W3 ⟨g3, n3, rfl, hn3, o3, b3⟩
        have B3 := hide ((unhide B2).trans (b3.mono (unhide B2).size))
        have O3 := hide ((unhide O2).later b3)
        have Y3 := hide o3.bytes
        have HS := hide (show l.length + n3 ≤ 140737488355328 by rw [unhide HM, ← unhide hn3, recB_length]; have := unhide HB; omega)
        have N3 := hide (show n3 ≤ 2080 by rw [← unhide hn3, recB_length]; omega)
        clear b3 o3
        go_wp2_with (at_builtin; refine wpList_append8 rfl (.tmp 23) (.tmp 25) rfl w.heap.size sp m k l rfl (unhide HM) (by exact unhide O3) (some ⟨g3, 0, none⟩) n3 n3 rfl (recB 3 bb) (unhide hn3) (by exact unhide Y3) (fun h => by cases h) (unhide HS) (by exact (unhide B3).size) ?_; intro sp4 n4 c4 W4 hn4 ho4 hg4 hb4)
        have B4 := hide ((unhide B3).trans hb4)
        have O4 := hide ho4
        have N4 := hide (show n4 ≤ (j + 1) * 2100 by rw [← unhide hn4, List.length_append, unhide HM, unhide hn3]; have := unhide HB; have := unhide N3; omega)
        clear hb4 ho4 hg4
        go_wp2
        exact ⟨⟨j + 1, _, sp4, n4, c4, by omega, by go_num, rfl, ER, hn4, N4, O4, B4⟩, by simp [intOf]; omega⟩
    · have hjj : ¬ (j : Int) < (n : Int) := by omega
      obtain rfl : j = n := by omega
      have FE := hide (unhide FEo l (by have h := unhide HR; rwa [List.take_of_length_le (by rw [unhide HN]; exact Nat.le_refl _)] at h) sp m k wr HM (unhide O) (unhide B))
      go_wp2
      go_ret2
      exact unhide FE
end Go.Proofs.YtijcpmbfhfppmaaGreatDoor
