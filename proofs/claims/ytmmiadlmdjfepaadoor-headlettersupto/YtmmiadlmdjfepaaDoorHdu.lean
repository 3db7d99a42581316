/- Heads: Write. -/
import Derived.Test.YtmmiadlmdjfepaaDoorHdt
namespace Go.Proofs.YtmmiadlmdjfepaaDoor
open Go.ChangeShapes Go.WideShapes Go.ChangeAt Go.RowKit
set_option linter.unusedVariables false

theorem ended_bound {n : Nat} : ∀ (l : List Fd), (∀ f ∈ l, f.name.length ≤ n ∧ f.value.length ≤ n) → (endedL (l.map lineF)).length ≤ l.length * (2 * n + 4)
  | [], _ => by simp [endedL]
  | f :: t, h => by
    have ih := ended_bound t (fun x hx => h x (List.mem_cons_of_mem _ hx))
    have h1 := h f (by simp)
    have e : endedL ((f :: t).map lineF) = (lineF f ++ crlf) ++ endedL (t.map lineF) := by simp [endedL]
    rw [e, List.length_append, List.length_cons, Nat.add_mul]
    have e2 : (lineF f ++ crlf).length = f.name.length + f.value.length + 4 := by simp [lineF, crlf]; omega
    omega
theorem written_bound {n : Nat} {h : Hd} (hl : HdLe n h) (k : Nat) (hk : h.fields.length ≤ k) : (writtenL h).length ≤ k * (2 * n + 4) + 3 * n + 20 := by
  have h1 := ended_bound h.fields hl.f.2
  have h2 : h.fields.length * (2 * n + 4) ≤ k * (2 * n + 4) := Nat.mul_le_mul_right _ hk
  have e : writtenL h = line0 h ++ crlf ++ endedL (h.fields.map lineF) ++ crlf := by unfold writtenL linesH; simp [endedL]
  have e2 : (targL h).length ≤ h.path.length + h.query.length + 1 := by
    unfold targL; split
    · omega
    · simp; omega
  have hm := hl.m
  have hp := hl.p
  have hq := hl.q
  rw [e]
  simp only [List.length_append, line0, List.length_cons, crlf, versionL, List.length_nil]
  omega
/-- How Write ends. -/
def WriteEnd (h : Hd) (base : Nat) (e : Ending) (w' : World) : Prop := match writeL h with
  | .ok b => ∃ g k, e = .returned (.tuple #[.slice (some ⟨g, 0, none⟩) b.length k, .int .i64 0]) ∧ OwnZ base w' g k (numsT b)
  | .bad n => e = .returned (.tuple #[.slice none 0 0, .int .i64 (n : Int)])
set_option maxRecDepth 20000 in
set_option maxHeartbeats 16000000 in
theorem write_calls (h : Hd) (sp : Option Addr) (c : Nat) (w : World) (hF : FdsAt w sp h.fields) (hl : HdLe 140737488355328 h) (hW : h.fields.length ≤ 32 → (writtenL h).length ≤ 140737488355328) :
    Calls Tryd.prog 14 #[hdVal h sp c] w fun e w' => WriteEnd h w.heap.size e w' ∧ Below w.heap.size w w' := by
  have B1 := hide (show Below w.heap.size w (w.alloc (.cells #[.string (stS h.method), .string (stS h.path), .string (stS h.query), .string (stS h.host), .slice sp h.fields.length c] 25)) from (Below.refl _ _).alloc (Nat.le_refl _) _)
  have X1 := hide (heap_new w (.cells #[.string (stS h.method), .string (stS h.path), .string (stS h.query), .string (stS h.host), .slice sp h.fields.length c] 25))
  have k0 := box_cell (unhide X1) 0 _ rfl
  have k1 := box_cell (unhide X1) 1 _ rfl
  have k2 := box_cell (unhide X1) 2 _ rfl
  have k3 := box_cell (unhide X1) 3 _ rfl
  have k4 := box_cell (unhide X1) 4 _ rfl
  have MC := hide (fun U (hu : Below w.heap.size w U) => mayBe_calls h sp c U (hF.later hu) hl)
  have WE := hide (show ∀ e W, WriteEnd h w.heap.size e W = match writeL h with
    | .ok b => ∃ g k, e = .returned (.tuple #[.slice (some ⟨g, 0, none⟩) b.length k, .int .i64 0]) ∧ OwnZ w.heap.size W g k (numsT b)
    | .bad n => e = .returned (.tuple #[.slice none 0 0, .int .i64 (n : Int)]) from fun e W => rfl)
  have hlf := hl.f.1
  cases hm : mayBeL h with
  | false =>
    have WB := hide (show ∀ W, WriteEnd h w.heap.size (.returned (.tuple #[.slice none 0 0, .int .i64 4])) W from fun W => by rw [unhide WE]; unfold writeL; rw [hm]; rfl)
    rw [hm] at MC
    clear hF hl hW hm WE
    unfold hdVal at MC ⊢
    go_enter Tryd.func14, Tryd.ntmps14
    go_wp2_with (go_at_call 29; refine (unhide MC _ (unhide B1)).mono ?_; rintro e W1 ⟨rfl, hb1⟩; have H1 := chain B1 hb1)
    go_ret2
    exact ⟨unhide WB _, unhide H1⟩
  | true =>
    rw [hm] at MC
    by_cases h32 : 32 < h.fields.length
    · have h32i : (32 : Int) < (h.fields.length : Int) := by omega
      have WB := hide (show ∀ W, WriteEnd h w.heap.size (.returned (.tuple #[.slice none 0 0, .int .i64 6])) W from fun W => by rw [unhide WE]; unfold writeL; rw [hm, if_pos rfl, if_pos h32]; rfl)
      clear hF hl hW hm WE h32
      unfold hdVal at MC ⊢
      go_enter Tryd.func14, Tryd.ntmps14
      go_wp2_with (go_at_call 29; refine (unhide MC _ (unhide B1)).mono ?_; rintro e W1 ⟨rfl, hb1⟩; have H1 := chain B1 hb1; have k4b := cell_later hb1 k4)
      go_ret2
      exact ⟨unhide WB _, unhide H1⟩
    · have h32i : ¬ (32 : Int) < (h.fields.length : Int) := by omega
      have hlw := hW (by omega)
      have AC := hide (fun U (hu : Below w.heap.size w U) => appended_calls h sp c U (hF.later hu) hl hlw)
      by_cases h2 : 2048 < (writtenL h).length
      · have h2i : (2048 : Int) < ((writtenL h).length : Int) := by omega
        have WB := hide (show ∀ W, WriteEnd h w.heap.size (.returned (.tuple #[.slice none 0 0, .int .i64 6])) W from fun W => by rw [unhide WE]; unfold writeL; rw [hm, if_pos rfl, if_neg h32, if_pos h2]; rfl)
        clear hF hl hW hm WE h32 h2
        unfold hdVal at MC AC ⊢
        generalize (writtenL h).length = wl at *
        go_enter Tryd.func14, Tryd.ntmps14
        go_wp2_with (first
          | (go_at_call 29; refine (unhide MC _ (unhide B1)).mono ?_; rintro e W1 ⟨rfl, hb1⟩; have H1 := chain B1 hb1; have k0b := cell_later hb1 k0; have k1b := cell_later hb1 k1; have k2b := cell_later hb1 k2; have k3b := cell_later hb1 k3; have k4b := cell_later hb1 k4)
          | (go_at_call 30; refine (unhide AC _ (unhide H1)).mono ?_; rintro e W2 ⟨⟨g, k, rfl, ho⟩, hb2⟩; have H2 := chain H1 hb2; clear ho))
        go_ret2
        exact ⟨unhide WB _, unhide H2⟩
      · have h2i : ¬ (2048 : Int) < ((writtenL h).length : Int) := by omega
        have WB := hide (show ∀ W g k, OwnZ w.heap.size W g k (numsT (writtenL h)) → WriteEnd h w.heap.size (.returned (.tuple #[.slice (some ⟨g, 0, none⟩) (writtenL h).length k, .int .i64 0])) W from fun W g k ho => by rw [unhide WE]; unfold writeL; rw [hm, if_pos rfl, if_neg h32, if_neg h2]; exact ⟨g, k, rfl, ho⟩)
        have OM := hide (show ∀ U W g k, Below w.heap.size w U → OwnZ U.heap.size W g k (numsT (writtenL h)) → OwnZ w.heap.size W g k (numsT (writtenL h)) from fun U W g k hu ho => ⟨ho.lt, Nat.le_trans hu.size ho.ge, ho.row, ho.le, ho.mx⟩)
        clear hF hl hW hm WE h32 h2
        unfold hdVal at MC AC ⊢
        generalize (writtenL h).length = wl at *
        go_enter Tryd.func14, Tryd.ntmps14
        go_wp2_with (first
          | (go_at_call 29; refine (unhide MC _ (unhide B1)).mono ?_; rintro e W1 ⟨rfl, hb1⟩; have H1 := chain B1 hb1; have k0b := cell_later hb1 k0; have k1b := cell_later hb1 k1; have k2b := cell_later hb1 k2; have k3b := cell_later hb1 k3; have k4b := cell_later hb1 k4)
          | (go_at_call 30; refine (unhide AC _ (unhide H1)).mono ?_; rintro e W2 ⟨⟨g, k, rfl, ho⟩, hb2⟩; have H2 := chain H1 hb2; have HO := hide (unhide OM _ _ _ _ (unhide H1) ho); clear ho))
        go_ret2
        exact ⟨unhide WB _ _ _ (unhide HO), unhide H2⟩
end Go.Proofs.YtmmiadlmdjfepaaDoor
