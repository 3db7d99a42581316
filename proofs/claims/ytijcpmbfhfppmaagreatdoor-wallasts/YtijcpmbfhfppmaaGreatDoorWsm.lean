/- Entries of any kind held against each other: it ends, and equal ones are the same. -/
import Derived.Test.YtijcpmbfhfppmaaGreatDoorSames
namespace Go.Proofs.YtijcpmbfhfppmaaGreatDoor
open Go.ChangeShapes Go.WideShapes Go.ChangeAt Go.RowKit
set_option linter.unusedVariables false

/-- It ends with a truth value that is true where p holds. -/
def AnyEnd (p : Prop) (w : World) (e : Ending) (w' : World) : Prop := ∃ x : Bool, e = .returned (.bool x) ∧ (p → x = true) ∧ Below w.heap.size w w'
set_option maxHeartbeats 4000000 in
theorem sameEntry_any (k t i k' t' i' : Int) (a a' : Option Addr) (n n' c c' : Nat) (l l' : List Nat) (w : World) (hn : l.length = n) (hn' : l'.length = n') (hb : BytesAt w a l) (hb' : BytesAt w a' l') :
    Calls Tryz.prog 59 #[entVal k t i a n c, entVal k' t' i' a' n' c'] w (AnyEnd ((k, t, i, l) = (k', t', i', l')) w) := by
  by_cases hall : k = k' ∧ t = t' ∧ i = i' ∧ l = l'
  · obtain ⟨rfl, rfl, rfl, rfl⟩ := hall
    refine (sameEntry_yes k t i a a' n n' c c' l w hn hn' hb hb').mono ?_
    rintro e w' ⟨rfl, h⟩
    exact ⟨true, rfl, fun _ => rfl, h⟩
  · have NO := hide (show ¬ ((k, t, i, l) = (k', t', i', l')) from fun h => by
      simp only [Prod.mk.injEq] at h
      exact hall h)
    clear hall
    have x0 := heap_old (entB k' t' i' a' n' c') (heap_new w (entB k t i a n c))
    have x1 := heap_new (w.alloc (entB k t i a n c)) (entB k' t' i' a' n' c')
    rw [size_alloc] at x1
    obtain ⟨c0, c1, c2, c3⟩ := entB_cells x0
    obtain ⟨d0, d1, d2, d3⟩ := entB_cells x1
    have bA : Below w.heap.size w ((w.alloc (entB k t i a n c)).alloc (entB k' t' i' a' n' c')) := ((Below.refl _ _).alloc (Nat.le_refl _) _).alloc (by rw [size_alloc]; omega) _
    have s1 := run_string8 (c := c) n hn (hb.later bA)
    have s2 := run_string8 (c := c') n' hn' (hb'.later bA)
    generalize strOf l = q1 at *
    generalize strOf l' = q2 at *
    have BA := hide bA
    have FE := hide (show ∀ x : Bool, AnyEnd ((k, t, i, l) = (k', t', i', l')) w (.returned (.bool x)) ((w.alloc (entB k t i a n c)).alloc (entB k' t' i' a' n' c')) from fun x => ⟨x, rfl, fun h => absurd h (unhide NO), bA⟩)
    clear x0 x1 bA hb hb' hn hn' NO
    by_cases h1 : k = k'
    · subst h1
      by_cases h2 : t = t'
      · subst h2
        by_cases h3 : i = i'
        · subst h3
          cases h4 : (q1.toList == q2.toList) with
          | true =>
            go_enter Tryz.func59, Tryz.ntmps59
            go_wp2
            go_ret
            exact unhide FE _
          | false =>
            go_enter Tryz.func59, Tryz.ntmps59
            go_wp2
            go_ret
            exact unhide FE _
        · have h3' : (i == i') = false := by simp [h3]
          go_enter Tryz.func59, Tryz.ntmps59
          go_wp2
          go_ret
          exact unhide FE _
      · have h2' : (t == t') = false := by simp [h2]
        go_enter Tryz.func59, Tryz.ntmps59
        go_wp2
        go_ret
        exact unhide FE _
    · have h1' : (k == k') = false := by simp [h1]
      go_enter Tryz.func59, Tryz.ntmps59
      go_wp2
      go_ret
      exact unhide FE _
set_option maxRecDepth 20000 in
set_option maxHeartbeats 4000000 in
theorem sameEntries_any (a a' : Option Addr) (n n' c c' : Nat) (es es' : List EntI) (w : World) (hn : es.length = n) (hn' : es'.length = n') (hlen : n ≤ 9223372036854775807) (hlen' : n' ≤ 9223372036854775807) (hb : EntsAt w a es) (hb' : EntsAt w a' es') :
    Calls Tryz.prog 21 #[.slice a n c, .slice a' n' c'] w (AnyEnd (es = es') w) := by
  have HB := hide hb
  have HB' := hide hb'
  have HN := hide hn
  have HN' := hide hn'
  clear hb hb' hn hn'
  have FE := hide (show ∀ (x : Bool) W, (es = es' → x = true) → Below w.heap.size w W → AnyEnd (es = es') w (.returned (.bool x)) W from fun x W h u => ⟨x, rfl, h, u⟩)
  by_cases hnn : n = n'
  · subst hnn
    go_enter Tryz.func21, Tryz.ntmps21
    go_wp2_with fail
    go_loopw [5] (fun i wr => ∃ j : Nat, j ≤ n ∧ i = .int .i64 (j : Int) ∧ Hid (Below w.heap.size w wr)) (fun i _ => n - (intOf i).toNat)
    case atStart => exact ⟨0, by omega, rfl, Below.refl _ _⟩
    case round =>
      obtain ⟨j, hj, rfl, F⟩ := hrel
      by_cases hjn : j < n
      · have hje : j < es.length := by have := unhide HN; omega
        have hje' : j < es'.length := by have := unhide HN'; omega
        obtain ⟨b, off, dp, dc, rfl, p0, p1, p2, p3, p4, _⟩ := ((unhide HB).later (unhide F)).cell j hje
        obtain ⟨b', off', dp', dc', rfl, q0, q1, q2, q3, q4, _⟩ := ((unhide HB').later (unhide F)).cell j hje'
        have EQ := hide (show es = es' → es[j] = es'[j] from fun h => by subst h; rfl)
        generalize es[j] = e at *
        generalize es'[j] = e' at *
        obtain ⟨k, t, i, d⟩ := e
        obtain ⟨k', t', i', d'⟩ := e'
        have P4 := hide p4
        have Q4 := hide q4
        have hj0 : (0 : Int) ≤ (j : Int) := by omega
        have hj1 : (j : Int) < (n : Int) := by omega
        clear p4 q4
        simp only at p0 p1 p2 p3 q0 q1 q2 q3
        go_wp2_with fail
        go_region_held3 (fun w' => w'.cell? ⟨b, off + j * 4, none⟩ = some (.int .i64 k) ∧ w'.cell? ⟨b, off + j * 4 + 1, none⟩ = some (.int .i64 t) ∧ w'.cell? ⟨b, off + j * 4 + 2, none⟩ = some (.int .i64 i) ∧ w'.cell? ⟨b, off + j * 4 + 3, none⟩ = some (.slice dp d.length dc) ∧
            w'.cell? ⟨b', off' + j * 4, none⟩ = some (.int .i64 k') ∧ w'.cell? ⟨b', off' + j * 4 + 1, none⟩ = some (.int .i64 t') ∧ w'.cell? ⟨b', off' + j * 4 + 2, none⟩ = some (.int .i64 i') ∧ w'.cell? ⟨b', off' + j * 4 + 3, none⟩ = some (.slice dp' d'.length dc'))
          (first
            | exact ⟨p0, p1, p2, p3, q0, q1, q2, q3⟩
            | exact ⟨cell_later hb1 p0, cell_later hb1 p1, cell_later hb1 p2, cell_later hb1 p3, cell_later hb1 q0, cell_later hb1 q1, cell_later hb1 q2, cell_later hb1 q3⟩)
          (first
            | (go_at_call 59; refine (sameEntry_any k t i k' t' i' dp dp' d.length d'.length dc dc' d d' _ rfl rfl (by exact (unhide P4).drew) (by exact (unhide Q4).drew)).mono ?_; rintro e W1 ⟨x1, rfl, hx1, hb1⟩))
        have F1 := hide ((unhide F).drew.trans (hb1.mono (unhide F).size))
        have X1 := hide hx1
        clear hb1 hx1
        cases x1 with
        | true =>
          go_wp2
          exact ⟨⟨j + 1, by omega, by go_num, unhide F1⟩, by simp [intOf]; omega⟩
        | false =>
          have FF := hide (unhide FE false W1 (fun h => unhide X1 (unhide EQ h)) (unhide F1))
          go_wp2
          go_ret
          exact unhide FF
      · have FF := hide (unhide FE true wr (fun _ => rfl) (unhide F))
        go_wp2
        go_ret
        exact unhide FF
  · have h1 : ((n : Int) == (n' : Int)) = false := by simp; omega
    have h2 : ¬ (n : Int) = (n' : Int) := by omega
    have FF := hide (unhide FE false w (fun h => absurd (show n = n' by rw [← unhide HN, ← unhide HN', h]) hnn) (Below.refl _ _))
    clear hnn
    go_enter Tryz.func21, Tryz.ntmps21
    go_wp2
    go_ret
    exact unhide FF
end Go.Proofs.YtijcpmbfhfppmaaGreatDoor
