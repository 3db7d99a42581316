/- Logs: records as bytes. -/
import Derived.Test.YtijcpmbfhfppmaaGreatDoorAll
import Derived.Test.YtijcpmbfhfppmaaGreatDoorWent
import Derived.Test.YtijcpmbfhfppmaaGreatDoorWput
import Derived.Test.YtijcpmbfhfppmaaGreatDoorWhard
namespace Go.Proofs.YtijcpmbfhfppmaaGreatDoor
open Go.ChangeShapes Go.WideShapes Go.ChangeAt Go.RowKit
set_option linter.unusedVariables false

/-- A record in its frame. -/
def recB (k : Nat) (l : List Nat) : List Nat := frameB (k :: l)
theorem recB_length (k : Nat) (l : List Nat) : (recB k l).length = 9 + l.length := by unfold recB; rw [frameB_length, List.length_cons]; omega
theorem recB_lt {k : Nat} {l : List Nat} (hk : k < 256) (hl : ∀ c ∈ l, c < 256) (h : l.length ≤ 60000) : ∀ c ∈ recB k l, c < 256 :=
  frameB_lt (l := k :: l) (fun c hc => by
    rcases List.mem_cons.1 hc with rfl | hc
    · exact hk
    · exact hl c hc) (by rw [List.length_cons]; omega)
set_option maxRecDepth 20000 in
set_option maxHeartbeats 4000000 in
theorem framed_calls (k : Nat) (a : Option Addr) (n c : Nat) (l : List Nat) (w : World) (hk : k < 256) (hn : l.length = n) (hb : BytesAt w a l) (hz : a = none → c = 0) (hl : n ≤ 60000) :
    Calls Tryz.prog 104 #[.int .u8 (k : Int), .slice a n c] w fun e w' => ∃ g m, e = .returned (.slice (some ⟨g, 0, none⟩) m m) ∧ Hid ((recB k l).length = m) ∧ OwnB w.heap.size w' (some ⟨g, 0, none⟩) m (recB k l) ∧ Below w.heap.size w w' := by
  have b1 : Below w.heap.size w (w.alloc (.cells #[.int .u8 (k : Int)] 5)) := (Below.refl _ _).alloc (Nat.le_refl _) _
  have o1 := hide (show OwnB w.heap.size (w.alloc (.cells #[.int .u8 (k : Int)] 5)) (some ⟨w.heap.size, 0, none⟩) 1 [k] from OwnB.ofBlock (l := [k]) (heap_new w _) (Nat.le_refl _) (by simpa using hk) (by simp [maxLen]))
  have HB := hide (hb.later b1)
  have B1 := hide b1
  have HN := hide hn
  have HZ := hide hz
  have HL := hide hb.lt
  have HS := hide (show ([k] : List Nat).length + n ≤ 140737488355328 by simp; omega)
  clear hb b1 hn hz
  go_enter Tryz.func104, Tryz.ntmps104
  go_wp2_with (at_builtin; refine wpList_append8 rfl (.tmp 9) (.tmp 10) rfl w.heap.size (some ⟨w.heap.size, 0, none⟩) 1 1 [k] rfl rfl (by exact unhide o1) a n c rfl l (unhide HN) (by exact unhide HB) (unhide HZ) (unhide HS) (by exact (unhide B1).size) ?_; intro sp2 n2 c2 W2 hn2 ho2 hg2 hb2)
  have O2 := hide ho2
  have B2 := hide ((unhide B1).trans hb2)
  have FC := hide (frame_ok' sp2 n2 c2 (k :: l) W2 (unhide hn2) (by exact ho2.bytes) (by have := unhide HN; rw [List.length_cons]; omega))
  have HM := hide (show (recB k l).length = 8 + n2 by unfold recB; rw [frameB_length, ← unhide hn2]; rfl)
  clear ho2 hg2 hb2
  go_wp2_with fail
  go_at_call 138
  refine (unhide FC).mono ?_
  rintro e W3 ⟨g, rfl, b3, hg, hcs⟩
  have O3 := hide (show OwnB w.heap.size W3 (some ⟨g, 0, none⟩) (8 + n2) (recB k l) by
    have h0 := OwnB.ofBlock (base := w.heap.size) hcs (Nat.le_trans (unhide B2).size hg) (recB_lt hk (unhide HL) (by have := unhide HN; omega)) (by rw [frameB_length, List.length_cons]; have := unhide HN; simp only [maxLen]; omega)
    rw [show (frameB (k :: l)).length = 8 + n2 from unhide HM] at h0
    exact h0)
  have B3 := hide ((unhide B2).trans (b3.mono (unhide B2).size))
  generalize 8 + n2 = m at *
  clear b3 hg hcs
  go_wp2
  go_ret
  exact ⟨g, m, rfl, HM, unhide O3, unhide B3⟩
end Go.Proofs.YtijcpmbfhfppmaaGreatDoor
