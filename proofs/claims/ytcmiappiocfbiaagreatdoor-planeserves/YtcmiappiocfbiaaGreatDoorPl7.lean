/- Plane: what must be whatever is asked. -/
import Derived.Test.YtcmiappiocfbiaaGreatDoorPl6
import Derived.Test.YtcmiappiocfbiaaGreatDoorPl2
namespace Go.Proofs.YtcmiappiocfbiaaGreatDoor
open Go.ChangeShapes Go.WideShapes Go.ChangeAt Go.RowKit

def liveL : List Tg := [(⟨#[97]⟩, 4607182418800017408), (⟨#[98]⟩, 0), (⟨#[99]⟩, 4613937818241073152)]
theorem live_w1 : weighN liveL 4596373779694328218 = some 0 := by decide +kernel
theorem live_w2 : weighN liveL 4598175219545276416 = some 2 := by decide +kernel
def liveR : List Rt := [⟨⟨#[104]⟩, ⟨#[47]⟩, ⟨#[112]⟩⟩, ⟨⟨#[104]⟩, ⟨#[47, 120]⟩, ⟨#[113]⟩⟩]
theorem live_r : bestN ⟨#[104]⟩ ⟨#[47, 120, 47, 121]⟩ liveR 2 = some 1 := by decide +kernel
theorem liveL_at {w : World} {g : Nat} (h : w.heap[g]? = some (.cells #[.string ⟨#[97]⟩, .float .f64 4607182418800017408, .string ⟨#[98]⟩, .float .f64 0, .string ⟨#[99]⟩, .float .f64 4613937818241073152] 41 (0, 0))) : TgsAt w (some ⟨g, 0, none⟩) liveL := by
  refine ⟨?_, fun i hi => ⟨g, 0, rfl, ?_⟩⟩
  · intro t ht
    simp only [liveL, List.mem_cons, List.not_mem_nil, or_false] at ht
    rcases ht with rfl | rfl | rfl <;> decide
  · match i, hi with
    | 0, _ => exact ⟨fcell0 h 0 _ rfl, fcell0 h 1 _ rfl⟩
    | 1, _ => exact ⟨fcell0 h 2 _ rfl, fcell0 h 3 _ rfl⟩
    | 2, _ => exact ⟨fcell0 h 4 _ rfl, fcell0 h 5 _ rfl⟩
    | i + 3, hi => simp [liveL] at hi; omega
theorem liveR_at {w : World} {g : Nat} (h : w.heap[g]? = some (.cells #[.string ⟨#[104]⟩, .string ⟨#[47]⟩, .string ⟨#[112]⟩, .string ⟨#[104]⟩, .string ⟨#[47, 120]⟩, .string ⟨#[113]⟩] 65 (0, 0))) : RtsAt w (some ⟨g, 0, none⟩) liveR := by
  refine ⟨?_, fun i hi => ⟨g, 0, rfl, ?_⟩⟩
  · intro t ht
    simp only [liveR, List.mem_cons, List.not_mem_nil, or_false] at ht
    rcases ht with rfl | rfl <;> decide
  · match i, hi with
    | 0, _ => exact ⟨fcell0 h 0 _ rfl, fcell0 h 1 _ rfl, fcell0 h 2 _ rfl⟩
    | 1, _ => exact ⟨fcell0 h 3 _ rfl, fcell0 h 4 _ rfl, fcell0 h 5 _ rfl⟩
    | i + 2, hi => simp [liveR] at hi; omega
set_option maxRecDepth 20000 in
set_option maxHeartbeats 4000000 in
theorem live10_calls (w : World) : Calls Tryz.prog 15 #[] w fun e w' => e = .returned (.bool true) ∧ Below w.heap.size w w' := by
  have b1 : Below w.heap.size w (w.alloc (.cells #[.string ⟨#[97]⟩, .float .f64 4607182418800017408, .string ⟨#[98]⟩, .float .f64 0, .string ⟨#[99]⟩, .float .f64 4613937818241073152] 41)) := (Below.refl _ _).alloc (Nat.le_refl _) _
  have B1 := hide b1
  have L1 := hide (liveL_at (heap_new w (.cells #[.string ⟨#[97]⟩, .float .f64 4607182418800017408, .string ⟨#[98]⟩, .float .f64 0, .string ⟨#[99]⟩, .float .f64 4613937818241073152] 41)))
  have W1 := hide (weigh_calls (unhide L1) 3 3 rfl (by omega) 4596373779694328218 (by decide))
  rw [live_w1] at W1
  have W2 := hide (fun W (hb : Below _ _ W) => weigh_calls ((unhide L1).later hb) 3 3 rfl (by omega) 4598175219545276416 (by decide))
  rw [live_w2] at W2
  have W3 := hide (fun (W : World) => find_calls (liveR_at (heap_new W (.cells #[.string ⟨#[104]⟩, .string ⟨#[47]⟩, .string ⟨#[112]⟩, .string ⟨#[104]⟩, .string ⟨#[47, 120]⟩, .string ⟨#[113]⟩] 65))) 2 2 rfl (by decide) 0 none 0 0 ⟨#[104]⟩ ⟨#[47, 120, 47, 121]⟩)
  rw [live_r] at W3
  have HA := hide (fun (W : World) => show Below W.heap.size W (W.alloc (.cells #[.string ⟨#[104]⟩, .string ⟨#[47]⟩, .string ⟨#[112]⟩, .string ⟨#[104]⟩, .string ⟨#[47, 120]⟩, .string ⟨#[113]⟩] 65)) from (Below.refl _ _).alloc (Nat.le_refl _) _)
  have hsf := run_storeF .plain
  unfold firstV at W1 W2
  rw [show findV liveR (some 1) = .tuple #[.agg #[.string ⟨#[104]⟩, .string ⟨#[47, 120]⟩, .string ⟨#[113]⟩], .bool true] from rfl] at W3
  clear b1
  go_enter Tryz.func15, Tryz.ntmps15
  go_wp2_with (first
    | (go_at_call 26
       refine (unhide W3 _).mono ?_
       rintro e V3 ⟨rfl, b3⟩
       have C3 := hide (((unhide C2).trans ((unhide HA V2).mono (unhide C2).size)).trans (b3.mono (Nat.le_trans (unhide C2).size (unhide HA V2).size)))
       have C4 := hide ((unhide C3).alloc (unhide C3).size (.cells #[.string ⟨#[104]⟩, .string ⟨#[47, 120]⟩, .string ⟨#[113]⟩] 65))
       clear b3)
    | (have hV : V1 = V1 := rfl
       clear hV
       go_at_call 25
       refine (unhide W2 V1 (unhide C1)).mono ?_
       rintro e V2 ⟨rfl, b2⟩
       have C2 := hide ((unhide D1).trans (b2.mono (unhide D1).size))
       clear b2)
    | (go_at_call 25
       refine (unhide W1).mono ?_
       rintro e V1 ⟨rfl, b1⟩
       have C1 := hide b1
       have D1 := hide ((unhide B1).trans (b1.mono (unhide B1).size))
       clear b1))
  go_ret
  exact ⟨rfl, unhide C4⟩
end Go.Proofs.YtcmiappiocfbiaaGreatDoor
