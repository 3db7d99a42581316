/- Heads: what must be whatever is asked. -/
import Derived.Test.YtmmiadlmdjfepaaDoorHde
namespace Go.Proofs.YtmmiadlmdjfepaaDoor
open Go.ChangeShapes Go.WideShapes Go.ChangeAt Go.RowKit Go.Lib
set_option linter.unusedVariables false

def liveN : List Nat := [71, 69, 84, 32, 47, 97, 63, 98, 32, 72, 84, 84, 80, 47, 49, 46, 49, 13, 10, 72, 111, 115, 116, 58, 32, 88, 46, 121, 58, 56, 48, 13, 10, 13, 10, 98, 111, 100, 121]
def liveC : Array Value := #[.int .u8 71, .int .u8 69, .int .u8 84, .int .u8 32, .int .u8 47, .int .u8 97, .int .u8 63, .int .u8 98, .int .u8 32, .int .u8 72, .int .u8 84, .int .u8 84, .int .u8 80, .int .u8 47, .int .u8 49, .int .u8 46, .int .u8 49, .int .u8 13, .int .u8 10, .int .u8 72, .int .u8 111, .int .u8 115, .int .u8 116, .int .u8 58, .int .u8 32, .int .u8 88, .int .u8 46, .int .u8 121, .int .u8 58, .int .u8 56, .int .u8 48, .int .u8 13, .int .u8 10, .int .u8 13, .int .u8 10, .int .u8 98, .int .u8 111, .int .u8 100, .int .u8 121]
theorem liveC_is : liveC = (liveN.map byteV).toArray := rfl
theorem live_at (W : World) : BytesAt (W.alloc (.cells liveC 5 (39, 40))) (some ⟨W.heap.size, 0, none⟩) liveN := bytesAt_block (l := liveN) (by rw [← liveC_is]; exact heap_new _ _) (by decide)
theorem live_tx : txN liveN = liveIn := by decide
theorem live_res {e : Ending} {W : World} (h : ParseRes (txN liveN) e W) : ∃ sp cc, e = .returned (.tuple #[.agg #[.string ⟨#[71, 69, 84]⟩, .string ⟨#[47, 97]⟩, .string ⟨#[98]⟩, .string ⟨#[120, 46, 121]⟩, .slice sp 1 cc], .int .i64 35, .int .i64 0]) := by
  unfold ParseRes at h
  rw [live_tx, live_parse] at h
  obtain ⟨sp, c, h1, _⟩ := h
  exact ⟨sp, c, h1⟩
set_option maxRecDepth 20000 in
set_option maxHeartbeats 4000000 in
theorem live9_calls (w : World) (hL : Lz w) : Calls Tryd.prog 12 #[] w fun e w' => e = .returned (.bool true) ∧ Below w.heap.size w w' := by
  have kc : (convert 22 22 (.slice (some ⟨w.heap.size, 0, none⟩) 39 39)).run Tryd.prog (w.alloc (.cells liveC 5)) = .ok (.slice (some ⟨w.heap.size, 0, none⟩) 39 39) (w.alloc (.cells liveC 5 (39, 40))) :=
    Lib.run_convert_bytes_const (P := Tryd.prog) w 22 5 liveC 39 39 Tryd.underlying22 Tryd.underlying5
  have B1 := hide (show Below w.heap.size w (w.alloc (.cells liveC 5 (39, 40))) from (Below.refl _ _).alloc (Nat.le_refl _) _)
  have PC := hide ((parse_calls (some ⟨w.heap.size, 0, none⟩) 39 39 liveN (w.alloc (.cells liveC 5 (39, 40))) rfl (by decide) (live_at w) (fun e => by cases e) (hL.later (unhide B1))).mono (R' := fun e w' => (∃ sp cc, e = .returned (.tuple #[.agg #[.string ⟨#[71, 69, 84]⟩, .string ⟨#[47, 97]⟩, .string ⟨#[98]⟩, .string ⟨#[120, 46, 121]⟩, .slice sp 1 cc], .int .i64 35, .int .i64 0])) ∧ Below (w.alloc (.cells liveC 5 (39, 40))).heap.size (w.alloc (.cells liveC 5 (39, 40))) w') (fun e w' h => ⟨live_res h.1, h.2⟩))
  clear hL
  unfold liveC at kc PC B1
  go_enter Tryd.func12, Tryd.ntmps12
  go_wp2_with (go_at_call 10; refine (unhide PC).mono ?_; rintro e W1 ⟨⟨sp, cc, rfl⟩, hb1⟩; have H1 := chain B1 hb1; have N1 := hide ((unhide H1).alloc (unhide H1).size (.cells #[.string ⟨#[71, 69, 84]⟩, .string ⟨#[47, 97]⟩, .string ⟨#[98]⟩, .string ⟨#[120, 46, 121]⟩, .slice sp 1 cc] 25)))
  go_ret
  exact ⟨rfl, unhide N1⟩
end Go.Proofs.YtmmiadlmdjfepaaDoor
