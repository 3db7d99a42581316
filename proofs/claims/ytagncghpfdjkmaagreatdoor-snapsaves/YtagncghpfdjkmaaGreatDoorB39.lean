/- Snapshots: bytes in pieces. -/
import Derived.Test.YtagncghpfdjkmaaGreatDoorB25
import Derived.Deep.QuietTactic
import Derived.BigQuiet
import Derived.Test.YtagncghpfdjkmaaGreatDoorB08
import Derived.Test.YtagncghpfdjkmaaGreatDoorB38
import Derived.Test.YtagncghpfdjkmaaGreatDoorB17
import Derived.Test.YtagncghpfdjkmaaGreatDoorB07
import Derived.Lib.SmallJoins
import Derived.Deep.Slices
import Derived.Test.YtagncghpfdjkmaaGreatDoorB15
import Derived.Test.YtagncghpfdjkmaaGreatDoorB16
import Derived.Test.YtagncghpfdjkmaaGreatDoorB10
section
namespace Go.Proofs.YtagncghpfdjkmaaGreatDoor
open Go.ChangeShapes Go.WideShapes Go.ChangeAt Go.RowKit
set_option linter.unusedVariables false

/-- One piece: of how many bytes it is, where its own stand, and these. -/
def pieceB (l : List Nat) (sz k : Nat) : List Nat := numB l.length ++ (numB k ++ (l.drop k).take sz)
def pcs (l : List Nat) (sz : Nat) : Nat → Bool → Nat → List (List Nat)
  | 0, _, _ => []
  | f + 1, b, k => if k < l.length ∨ b = true then pieceB l sz k :: pcs l sz f false (k + min sz (l.length - k)) else []
def piecesL (l : List Nat) (sz : Nat) : List (List Nat) := pcs l sz (l.length + 1) true 0
/-- How Pieces ends. -/
def PcEnd (l : List Nat) (z : Int) (w : World) (e : Ending) (w' : World) : Prop := Below w.heap.size w w' ∧ ((z < 1 ∧ e = .returned (.tuple #[.slice none 0 0, .int .i64 2])) ∨ (1 ≤ z ∧ 32768 < l.length ∧ e = .returned (.tuple #[.slice none 0 0, .int .i64 6])) ∨
  (1 ≤ z ∧ l.length ≤ 32768 ∧ ∃ v, e = .returned (.tuple #[v, .int .i64 0]) ∧ OwnS w.heap.size w' v (piecesL l z.toNat)))
theorem pcs_go {l : List Nat} {sz f k : Nat} {b : Bool} (h : k < l.length ∨ b = true) : pcs l sz (f + 1) b k = pieceB l sz k :: pcs l sz f false (k + min sz (l.length - k)) := by
  rw [pcs, if_pos h]
theorem pcs_end {l : List Nat} {sz k : Nat} (h : ¬ k < l.length) : ∀ f, pcs l sz f false k = []
  | 0 => rfl
  | f + 1 => by rw [pcs, if_neg (by simpa using h)]
set_option maxRecDepth 20000 in
set_option maxHeartbeats 16000000 in
theorem pieces_calls (a : Option Addr) (n c : Nat) (l : List Nat) (z : Int) (w : World) (hn : l.length = n) (hc : n ≤ c) (hcm : c ≤ 140737488355328) (hb : BytesAt w a l) (hz : a = none → c = 0) (hzb : z ≤ 9223372036854775807) :
    Calls Tryz.prog 40 #[.slice a n c, .int .i64 z] w (PcEnd l z w) := by
  by_cases h1 : z < 1
  · have FF := hide (show PcEnd l z w (.returned (.tuple #[.slice none 0 0, .int .i64 2])) w from ⟨Below.refl _ _, .inl ⟨h1, rfl⟩⟩)
    clear hb hn
    go_enter Tryz.func40, Tryz.ntmps40
    go_wp2
    go_ret2
    exact unhide FF
  by_cases h2 : 32768 < n
  · have y2 : (32768 : Int) < (n : Int) := by omega
    have FF := hide (show PcEnd l z w (.returned (.tuple #[.slice none 0 0, .int .i64 6])) w from ⟨Below.refl _ _, .inr (.inl ⟨by omega, by omega, rfl⟩)⟩)
    clear hb hn
    go_enter Tryz.func40, Tryz.ntmps40
    go_wp2
    go_ret2
    exact unhide FF
  have y2 : ¬ (32768 : Int) < (n : Int) := by omega
  obtain ⟨sz, rfl⟩ : ∃ sz : Nat, z = (sz : Int) := ⟨z.toNat, by omega⟩
  have hsz : 1 ≤ sz := by omega
  have HB := hide hb
  have HN := hide hn
  have HZ := hide hz
  have FE := hide (show ∀ v V, OwnS w.heap.size V v (piecesL l sz) → Below w.heap.size w V → PcEnd l (sz : Int) w (.returned (.tuple #[v, .int .i64 0])) V from fun v V ho u => ⟨u, .inr (.inr ⟨by omega, by omega, v, rfl, by rw [Int.toNat_natCast]; exact ho⟩)⟩)
  have h1' : ¬ (sz : Int) < 1 := by omega
  clear hb hn hz
  go_enter Tryz.func40, Tryz.ntmps40
  go_wp2_with fail
  go_loopw [6, 7] (fun v q wr => ∃ (k f : Nat) (rows : List (List Nat)) (sp : Option Addr) (m cc : Nat), k ≤ n ∧ q = .int .i64 (k : Int) ∧ v = .slice sp m cc ∧ Hid (rows.length = m) ∧ m ≤ k + 1 ∧ Hid (OwnS w.heap.size wr (.slice sp m cc) rows) ∧ Hid (rows ++ pcs l sz f (decide (m = 0)) k = piecesL l sz) ∧ n + (if m = 0 then 1 else 0) ≤ f + k ∧ (m ≠ 0 → (0 < k ∨ n = 0)) ∧ Hid (Below w.heap.size w wr)) (fun v q _ => 2 * (n - (intOf q).toNat) + (if (match v with | .slice _ m _ => m | _ => 0) = 0 then 1 else 0))
  case atStart => exact ⟨0, n + 1, [], none, 0, 0, by omega, rfl, rfl, hide rfl, by omega, hide (OwnS.ofNil _ _), hide (by rw [← unhide HN]; rfl), by simp, by omega, hide (Below.refl _ _)⟩
  case round =>
    obtain ⟨k, f, rows, sp, m, cc, hk, rfl, rfl, HM, hmk, OS, PQ, hf, hm0, F⟩ := hrel
    by_cases hkn0 : k < n
    · have hkn : (k : Int) < (n : Int) := by omega
      have hw1 : IntKind.i64.wrap ((n : Int) - (k : Int)) = ((n - k : Nat) : Int) := by rw [IntKind.wrap_i64]; omega
      have hmn : min (sz : Int) ((n - k : Nat) : Int) = ((min sz (n - k) : Nat) : Int) := by omega
      have hw2 : IntKind.i64.wrap ((k : Int) + ((min sz (n - k) : Nat) : Int)) = ((k + min sz (n - k) : Nat) : Int) := by rw [IntKind.wrap_i64]; omega
      have hkk : k + min sz (n - k) ≤ n := by omega
      have hsl : ∀ u, (Instr.slice 27 (.slice a n c) (some (.int .i64 (k : Int))) (some (.int .i64 ((k + min sz (n - k) : Nat) : Int))) none).run Tryz.prog u = .ok (.slice (slp a k c) (k + min sz (n - k) - k) (c - k)) u := fun u => run_slice_lh8 a n c k (k + min sz (n - k)) (by omega) (by omega) u
      obtain ⟨f', rfl⟩ : ∃ f', f = f' + 1 := ⟨f - 1, by split at hf <;> omega⟩
      have PQ' := hide (show (rows ++ [pieceB l sz k]) ++ pcs l sz f' (decide (m + 1 = 0)) (k + min sz (n - k)) = piecesL l sz from by
        rw [← unhide PQ, pcs_go (by rw [unhide HN]; exact .inl hkn0), unhide HN, List.append_assoc]
        simp)
      have hdrop := ((unhide HB).later (unhide F)).drop k c (by rw [unhide HN]; exact hc)
      have HPB := hide (show BytesAt wr (slp a k c) ((l.drop k).take (k + min sz (n - k) - k)) from hdrop.take _)
      have HPL := hide (show ((l.drop k).take (k + min sz (n - k) - k)).length = k + min sz (n - k) - k by rw [List.length_take, List.length_drop, unhide HN]; omega)
      have HPE := hide (show (l.drop k).take (k + min sz (n - k) - k) = (l.drop k).take sz by
        rw [show k + min sz (n - k) - k = min sz (n - k) by omega]
        by_cases hq : sz ≤ n - k
        · rw [Nat.min_eq_left hq]
        · rw [Nat.min_eq_right (by omega), List.take_of_length_le (by rw [List.length_drop, unhide HN]; omega), List.take_of_length_le (by rw [List.length_drop, unhide HN]; omega)])
      have HPZ := hide (show slp a k c = none → c - k = 0 from fun e => slp_none e (unhide HZ))
      have A1 := hide (saddNumber_calls (w := wr) (sp := none) (c := 0) (b := []) wr.heap.size 0 n rfl (OwnB.ofNil _ _) (by simp) (by omega) (Nat.le_refl _))
      generalize slp a k c = pa at *
      generalize hke : k + min sz (n - k) = ke at *
      generalize hkl : ke - k = kl at *
      go_wp2_with fail
      go_at_call 52
      refine (unhide A1).mono ?_
      rintro e V1 ⟨sp1, n1, c1, rfl, hn1, ho1, v1⟩
      have A2 := hide (saddNumber_calls (w := V1) wr.heap.size n1 k (unhide hn1) ho1 (by have := numB_six n (by omega); simp; omega) (by omega) v1.size)
      have U1 := hide v1
      clear v1 hn1 ho1 A1
      go_wp2_with fail
      go_at_call 52
      refine (unhide A2).mono ?_
      rintro e V2 ⟨sp2, n2, c2, rfl, hn2, ho2, v2⟩
      have U2 := hide ((unhide U1).trans v2)
      have O2 := hide ho2
      have N2 := hide (unhide hn2)
      have L2 := hide (show ([] ++ numB n ++ numB k).length ≤ 12 by have h1 := numB_six n (by omega); have h2 := numB_six k (by omega); simp only [List.length_append, List.length_nil]; omega)
      have HB2 := hide ((unhide HPB).later (unhide U2))
      have OS2 := hide ((unhide OS).later (unhide U2))
      have F2 := hide ((unhide F).trans ((unhide U2).mono (unhide F).size))
      clear v2 hn2 ho2 A2
      go_wp2_with (first
        | (have hV : O2 = O2 := rfl; clear hV
           at_builtin
           refine wpList_append8 rfl (.tmp 38) (.tmp 42) rfl wr.heap.size sp2 n2 c2 ([] ++ numB n ++ numB k) rfl (unhide N2) (by exact unhide O2) pa kl (c - k) rfl ((l.drop k).take kl) (unhide HPL) (by exact unhide HB2) (unhide HPZ) (by have := unhide L2; omega) (by exact (unhide U2).size) ?_
           intro sp3 n3 c3 V3 hn3 ho3 hg3 hb3
           have EQ3 : [] ++ numB n ++ numB k ++ (l.drop k).take kl = pieceB l sz k := by rw [unhide HPE]; unfold pieceB; rw [unhide HN]; simp only [List.nil_append, List.append_assoc]
           rw [EQ3] at hn3 ho3
           have O3 := hide (ho3.mono (unhide F).size)
           have N3 := hide (unhide hn3)
           have U3 := hide ((unhide U2).trans hb3)
           have F3 := hide ((unhide F).trans ((unhide U3).mono (unhide F).size))
           have OS3 := hide ((unhide OS).later (unhide U3))
           have UB := hide ((Below.refl V3.heap.size V3).alloc (Nat.le_refl _) (.cells #[.slice sp3 n3 c3] 27))
           have XB := hide (heap_new V3 (.cells #[.slice sp3 n3 c3] 27))
           have O4 := hide ((unhide O3).later (unhide UB))
           have OS4 := hide ((unhide OS3).later (unhide UB))
           have F4 := hide ((unhide F3).trans ((unhide UB).mono (unhide F3).size))
           clear ho3 hg3 hb3 EQ3 hn3 O2)
        | (have hV : OS4 = OS4 := rfl; clear hV
           at_builtin
           refine wpList_appendS rfl (.tmp 37) (.tmp 44) rfl w.heap.size (.slice sp m cc) rows rfl (by exact unhide OS4) V3.heap.size rfl sp3 c3 (pieceB l sz k) (by rw [unhide N3]; exact box_cell (unhide XB) 0 _ rfl) (by exact unhide O4) (by rw [unhide HM]; omega) (by exact (unhide F4).size) ?_
           intro v5 V5 ho5 hb5
           obtain ⟨sp5, c5, rfl⟩ := ho5.form
           have F5 := hide ((unhide F4).trans hb5)
           have LEN := hide (show (rows ++ [pieceB l sz k]).length = m + 1 by rw [List.length_append, unhide HM]; rfl)
           rw [unhide LEN] at ho5 ⊢
           have OS5 := hide ho5
           clear ho5 hb5 OS4))
      exact ⟨⟨ke, f', rows ++ [pieceB l sz k], sp5, m + 1, c5, by omega, rfl, rfl, LEN, by omega, OS5, PQ', by split at hf <;> simp <;> omega, by omega, F5⟩, by simp [intOf]; omega⟩
    · by_cases hmz : m = 0
      · subst hmz
        have hkn : ¬ (k : Int) < (n : Int) := by omega
        have hw1 : IntKind.i64.wrap ((n : Int) - (k : Int)) = ((n - k : Nat) : Int) := by rw [IntKind.wrap_i64]; omega
        have hmn : min (sz : Int) ((n - k : Nat) : Int) = ((min sz (n - k) : Nat) : Int) := by omega
        have hw2 : IntKind.i64.wrap ((k : Int) + ((min sz (n - k) : Nat) : Int)) = ((k + min sz (n - k) : Nat) : Int) := by rw [IntKind.wrap_i64]; omega
        have hkk : k + min sz (n - k) ≤ n := by omega
        have hsl : ∀ u, (Instr.slice 27 (.slice a n c) (some (.int .i64 (k : Int))) (some (.int .i64 ((k + min sz (n - k) : Nat) : Int))) none).run Tryz.prog u = .ok (.slice (slp a k c) (k + min sz (n - k) - k) (c - k)) u := fun u => run_slice_lh8 a n c k (k + min sz (n - k)) (by omega) (by omega) u
        obtain ⟨f', rfl⟩ : ∃ f', f = f' + 1 := ⟨f - 1, by split at hf <;> omega⟩
        have PQ' := hide (show (rows ++ [pieceB l sz k]) ++ pcs l sz f' (decide (0 + 1 = 0)) (k + min sz (n - k)) = piecesL l sz from by
          rw [← unhide PQ, pcs_go (by rw [unhide HN]; exact .inr rfl), unhide HN, List.append_assoc]
          simp)
        have hdrop := ((unhide HB).later (unhide F)).drop k c (by rw [unhide HN]; exact hc)
        have HPB := hide (show BytesAt wr (slp a k c) ((l.drop k).take (k + min sz (n - k) - k)) from hdrop.take _)
        have HPL := hide (show ((l.drop k).take (k + min sz (n - k) - k)).length = k + min sz (n - k) - k by rw [List.length_take, List.length_drop, unhide HN]; omega)
        have HPE := hide (show (l.drop k).take (k + min sz (n - k) - k) = (l.drop k).take sz by
          rw [show k + min sz (n - k) - k = min sz (n - k) by omega]
          by_cases hq : sz ≤ n - k
          · rw [Nat.min_eq_left hq]
          · rw [Nat.min_eq_right (by omega), List.take_of_length_le (by rw [List.length_drop, unhide HN]; omega), List.take_of_length_le (by rw [List.length_drop, unhide HN]; omega)])
        have HPZ := hide (show slp a k c = none → c - k = 0 from fun e => slp_none e (unhide HZ))
        have A1 := hide (saddNumber_calls (w := wr) (sp := none) (c := 0) (b := []) wr.heap.size 0 n rfl (OwnB.ofNil _ _) (by simp) (by omega) (Nat.le_refl _))
        generalize slp a k c = pa at *
        generalize hke : k + min sz (n - k) = ke at *
        generalize hkl : ke - k = kl at *
        go_wp2_with fail
        go_at_call 52
        refine (unhide A1).mono ?_
        rintro e V1 ⟨sp1, n1, c1, rfl, hn1, ho1, v1⟩
        have A2 := hide (saddNumber_calls (w := V1) wr.heap.size n1 k (unhide hn1) ho1 (by have := numB_six n (by omega); simp; omega) (by omega) v1.size)
        have U1 := hide v1
        clear v1 hn1 ho1 A1
        go_wp2_with fail
        go_at_call 52
        refine (unhide A2).mono ?_
        rintro e V2 ⟨sp2, n2, c2, rfl, hn2, ho2, v2⟩
        have U2 := hide ((unhide U1).trans v2)
        have O2 := hide ho2
        have N2 := hide (unhide hn2)
        have L2 := hide (show ([] ++ numB n ++ numB k).length ≤ 12 by have h1 := numB_six n (by omega); have h2 := numB_six k (by omega); simp only [List.length_append, List.length_nil]; omega)
        have HB2 := hide ((unhide HPB).later (unhide U2))
        have OS2 := hide ((unhide OS).later (unhide U2))
        have F2 := hide ((unhide F).trans ((unhide U2).mono (unhide F).size))
        clear v2 hn2 ho2 A2
        go_wp2_with (first
          | (have hV : O2 = O2 := rfl; clear hV
             at_builtin
             refine wpList_append8 rfl (.tmp 38) (.tmp 42) rfl wr.heap.size sp2 n2 c2 ([] ++ numB n ++ numB k) rfl (unhide N2) (by exact unhide O2) pa kl (c - k) rfl ((l.drop k).take kl) (unhide HPL) (by exact unhide HB2) (unhide HPZ) (by have := unhide L2; omega) (by exact (unhide U2).size) ?_
             intro sp3 n3 c3 V3 hn3 ho3 hg3 hb3
             have EQ3 : [] ++ numB n ++ numB k ++ (l.drop k).take kl = pieceB l sz k := by rw [unhide HPE]; unfold pieceB; rw [unhide HN]; simp only [List.nil_append, List.append_assoc]
             rw [EQ3] at hn3 ho3
             have O3 := hide (ho3.mono (unhide F).size)
             have N3 := hide (unhide hn3)
             have U3 := hide ((unhide U2).trans hb3)
             have F3 := hide ((unhide F).trans ((unhide U3).mono (unhide F).size))
             have OS3 := hide ((unhide OS).later (unhide U3))
             have UB := hide ((Below.refl V3.heap.size V3).alloc (Nat.le_refl _) (.cells #[.slice sp3 n3 c3] 27))
             have XB := hide (heap_new V3 (.cells #[.slice sp3 n3 c3] 27))
             have O4 := hide ((unhide O3).later (unhide UB))
             have OS4 := hide ((unhide OS3).later (unhide UB))
             have F4 := hide ((unhide F3).trans ((unhide UB).mono (unhide F3).size))
             clear ho3 hg3 hb3 EQ3 hn3 O2)
          | (have hV : OS4 = OS4 := rfl; clear hV
             at_builtin
             refine wpList_appendS rfl (.tmp 37) (.tmp 44) rfl w.heap.size (.slice sp 0 cc) rows rfl (by exact unhide OS4) V3.heap.size rfl sp3 c3 (pieceB l sz k) (by rw [unhide N3]; exact box_cell (unhide XB) 0 _ rfl) (by exact unhide O4) (by rw [unhide HM]; omega) (by exact (unhide F4).size) ?_
             intro v5 V5 ho5 hb5
             obtain ⟨sp5, c5, rfl⟩ := ho5.form
             have F5 := hide ((unhide F4).trans hb5)
             have LEN := hide (show (rows ++ [pieceB l sz k]).length = 0 + 1 by rw [List.length_append, unhide HM]; rfl)
             rw [unhide LEN] at ho5 ⊢
             have OS5 := hide ho5
             clear ho5 hb5 OS4))
        exact ⟨⟨ke, f', rows ++ [pieceB l sz k], sp5, 0 + 1, c5, by omega, rfl, rfl, LEN, by omega, OS5, PQ', by split at hf <;> simp <;> omega, by omega, F5⟩, by simp [intOf]; omega⟩
      · have hkn : ¬ (k : Int) < (n : Int) := by omega
        have hm1 : ¬ (m : Int) = 0 := by omega
        have hm2 : ((m : Int) == 0) = false := by simp; omega
        have PE := hide (show rows = piecesL l sz from by
          rw [← unhide PQ, decide_eq_false hmz, pcs_end (by rw [unhide HN]; exact hkn0), List.append_nil])
        have FF := hide (unhide FE (.slice sp m cc) wr (by rw [← unhide PE]; exact unhide OS) (unhide F))
        clear FE
        go_wp2
        go_ret2
        exact unhide FF
end Go.Proofs.YtagncghpfdjkmaaGreatDoor
end
/- Snapshots: small ones; live. -/
section
namespace Go.Proofs.YtagncghpfdjkmaaGreatDoor
open Go.ChangeShapes Go.WideShapes Go.ChangeAt Go.RowKit
set_option linter.unusedVariables false

def ofS (n : Nat) : Sn := ⟨n, 1, [1], [], [120]⟩
theorem of_world (w : World) (o : Obj) : Below w.heap.size w (((w.alloc o).alloc (.cells #[.int .i64 1] 3)).alloc (.cells #[.int .u8 120] 5 (1, 2))) ∧ (((w.alloc o).alloc (.cells #[.int .i64 1] 3)).alloc (.cells #[.int .u8 120] 5 (1, 2))).heap[w.heap.size]? = some o ∧ IntsAt (((w.alloc o).alloc (.cells #[.int .i64 1] 3)).alloc (.cells #[.int .u8 120] 5 (1, 2))) (some ⟨w.heap.size + 1, 0, none⟩) [1] ∧ BytesAt (((w.alloc o).alloc (.cells #[.int .i64 1] 3)).alloc (.cells #[.int .u8 120] 5 (1, 2))) (some ⟨w.heap.size + 1 + 1, 0, none⟩) [120] := by
  have a1 : Below w.heap.size w (w.alloc o) := (Below.refl _ _).alloc (Nat.le_refl _) _
  have hs1 : (w.alloc o).heap.size = w.heap.size + 1 := by simp
  have a2 : Below (w.alloc o).heap.size (w.alloc o) ((w.alloc o).alloc (.cells #[.int .i64 1] 3)) := (Below.refl _ _).alloc (Nat.le_refl _) _
  have hs2 : ((w.alloc o).alloc (.cells #[.int .i64 1] 3)).heap.size = w.heap.size + 1 + 1 := by simp
  have a3 : Below ((w.alloc o).alloc (.cells #[.int .i64 1] 3)).heap.size ((w.alloc o).alloc (.cells #[.int .i64 1] 3)) (((w.alloc o).alloc (.cells #[.int .i64 1] 3)).alloc (.cells #[.int .u8 120] 5 (1, 2))) := (Below.refl _ _).alloc (Nat.le_refl _) _
  refine ⟨(a1.trans (a2.mono a1.size)).trans (a3.mono (a1.trans (a2.mono a1.size)).size), later_block a3 (later_block a2 (heap_new w o)), ?_, ?_⟩
  · have := (lit_ints (w.alloc o) [1] (by decide)).later a3
    rw [hs1] at this
    exact this
  · have := lit_bytes ((w.alloc o).alloc (.cells #[.int .i64 1] 3)) [120] (1, 2) (by decide)
    rw [hs2] at this
    exact this
set_option maxRecDepth 20000 in
set_option maxHeartbeats 4000000 in
theorem of_calls (n : Nat) (hn : n ≤ 1099511627776) (w : World) : Calls Tryz.prog 37 #[.int .i64 (n : Int)] w fun e w' => ∃ h, e = .returned (.agg (snRow (ofS n) h)) ∧ SnAt w' (ofS n) h ∧ Below w.heap.size w w' := by
  have kc := fun (w : World) (C : Array Value) (n c : Nat) => Lib.run_convert_bytes_const (P := Tryz.prog) w 27 5 C n c Tryz.underlying27 Tryz.underlying5
  have kc2 := kc ((w.alloc (.cells #[.int .i64 0, .int .i64 0, .slice none 0 0, .slice none 0 0, .slice none 0 0] 29)).alloc (.cells #[.int .i64 1] 3)) #[.int .u8 120] 1 1
  rw [show ((w.alloc (.cells #[.int .i64 0, .int .i64 0, .slice none 0 0, .slice none 0 0, .slice none 0 0] 29)).alloc (.cells #[.int .i64 1] 3)).heap.size = w.heap.size + 1 + 1 by simp] at kc2
  rw [show ((#[.int .u8 120] : Array Value).size, (#[.int .u8 120] : Array Value).size + 1) = (1, 2) from rfl] at kc2
  obtain ⟨u3, hr, i3, b3⟩ := of_world w (.cells #[.int .i64 (n : Int), .int .i64 1, .slice (some ⟨w.heap.size + 1, 0, none⟩) 1 1, .slice none 0 0, .slice (some ⟨w.heap.size + 1 + 1, 0, none⟩) 1 1] 29)
  have y0 := box_cell hr 0 _ rfl
  have y1 := box_cell hr 1 _ rfl
  have y2 := box_cell hr 2 _ rfl
  have y3 := box_cell hr 3 _ rfl
  have y4 := box_cell hr 4 _ rfl
  have FF := hide (show ∃ h, Ending.returned (.agg #[.int .i64 (n : Int), .int .i64 1, .slice (some ⟨w.heap.size + 1, 0, none⟩) 1 1, .slice none 0 0, .slice (some ⟨w.heap.size + 1 + 1, 0, none⟩) 1 1]) = .returned (.agg (snRow (ofS n) h)) ∧ SnAt (((w.alloc (.cells #[.int .i64 (n : Int), .int .i64 1, .slice (some ⟨w.heap.size + 1, 0, none⟩) 1 1, .slice none 0 0, .slice (some ⟨w.heap.size + 1 + 1, 0, none⟩) 1 1] 29)).alloc (.cells #[.int .i64 1] 3)).alloc (.cells #[.int .u8 120] 5 (1, 2))) (ofS n) h ∧ Below w.heap.size w (((w.alloc (.cells #[.int .i64 (n : Int), .int .i64 1, .slice (some ⟨w.heap.size + 1, 0, none⟩) 1 1, .slice none 0 0, .slice (some ⟨w.heap.size + 1 + 1, 0, none⟩) 1 1] 29)).alloc (.cells #[.int .i64 1] 3)).alloc (.cells #[.int .u8 120] 5 (1, 2))) from
    ⟨⟨some ⟨w.heap.size + 1, 0, none⟩, 1, none, 0, some ⟨w.heap.size + 1 + 1, 0, none⟩, 1⟩, rfl, ⟨by unfold ofS; dsimp only; omega, by unfold ofS; dsimp only; omega, i3, ⟨by simp [ofS], fun i hi => by simp [ofS] at hi⟩, b3, by simp [ofS, maxLen], by simp [ofS], by simp [ofS], by simp [maxLen], fun e => by cases e⟩, u3⟩)
  clear u3 hr i3 b3 kc
  go_enter Tryz.func37, Tryz.ntmps37
  go_wp2
  refine bodyPost_ret (v := .agg #[.int .i64 (n : Int), .int .i64 1, .slice (some ⟨w.heap.size + 1, 0, none⟩) 1 1, .slice none 0 0, .slice (some ⟨w.heap.size + 1 + 1, 0, none⟩) 1 1]) (by simp [results, Tryz.results37, go_sem, y0, y1, y2, y3, y4]) rfl ?_
  exact unhide FF
/-- What is asked of live, plainly. -/
theorem live_1 : (sSave 1000 (ofS 3) []).1 = 0 := by kernel_rfl
theorem live_2 : (sSave 1000 (ofS 12) (sSave 1000 (ofS 3) []).2).1 = 0 := by kernel_rfl
theorem live_3 : ((sSave 1000 (ofS 12) (sSave 1000 (ofS 3) []).2).2.map (·.1)) = [snNm 12] := by kernel_rfl
theorem live_4 : (sLoad (sSave 1000 (ofS 12) (sSave 1000 (ofS 3) []).2).2).map (·.i) = some 12 := by kernel_rfl
theorem live_5 : piecesL [97, 98, 99] 2 = [[3, 0, 97, 98], [3, 2, 99]] := by kernel_rfl
end Go.Proofs.YtagncghpfdjkmaaGreatDoor
end
/- Snapshots: without a disk. -/
section
namespace Go.Proofs.YtagncghpfdjkmaaGreatDoor
open Go.ChangeShapes Go.WideShapes Go.ChangeAt Go.RowKit
set_option linter.unusedVariables false

set_option maxRecDepth 20000 in
set_option maxHeartbeats 4000000 in
theorem save_nil (s : Sn) (sh : SnH) (w : World) : Calls Tryz.prog 24 #[.pointer none, .agg (snRow s sh)] w fun e w' => e = .returned (.int .i64 1) ∧ Below w.heap.size w w' := by
  have B1 := hide ((Below.refl w.heap.size w).alloc (Nat.le_refl _) (.cells (snRow s sh) 29))
  unfold snRow at B1 ⊢
  go_enter Tryz.func24, Tryz.ntmps24
  go_wp2
  go_ret
  exact ⟨rfl, unhide B1⟩
set_option maxRecDepth 20000 in
set_option maxHeartbeats 4000000 in
theorem load_nil (w : World) : Calls Tryz.prog 30 #[.pointer none] w fun e w' => e = .returned (.tuple #[.agg #[.int .i64 0, .int .i64 0, .slice none 0 0, .slice none 0 0, .slice none 0 0], .int .i64 1]) ∧ Below w.heap.size w w' := by
  have X1 := hide (heap_new w (.cells #[.int .i64 0, .int .i64 0, .slice none 0 0, .slice none 0 0, .slice none 0 0] 29))
  have B1 := hide (show Below w.heap.size w (w.alloc (.cells #[.int .i64 0, .int .i64 0, .slice none 0 0, .slice none 0 0, .slice none 0 0] 29)) from (Below.refl _ _).alloc (Nat.le_refl _) _)
  have c0 := box_cell (unhide X1) 0 _ rfl
  have c1 := box_cell (unhide X1) 1 _ rfl
  have c2 := box_cell (unhide X1) 2 _ rfl
  have c3 := box_cell (unhide X1) 3 _ rfl
  have c4 := box_cell (unhide X1) 4 _ rfl
  go_enter Tryz.func30, Tryz.ntmps30
  go_wp2_with fail
  refine wp_scope_straight ?_
  go_wp2
  simp (config := { zetaDelta := true }) only [Exit.noGoto]
  refine bodyPost_ret (v := .tuple #[.agg #[.int .i64 0, .int .i64 0, .slice none 0 0, .slice none 0 0, .slice none 0 0], .int .i64 1]) (by simp [results, Tryz.results30, go_sem, c0, c1, c2, c3, c4]) rfl ?_
  exact ⟨rfl, unhide B1⟩
end Go.Proofs.YtagncghpfdjkmaaGreatDoor
end
/- A snapshot that came in, opened. -/
section
namespace Go.Proofs.YtagncghpfdjkmaaGreatDoor
open Go.ChangeShapes Go.WideShapes Go.ChangeAt Go.RowKit
set_option linter.unusedVariables false

theorem list2s {α : Type} {l : List α} (h : l.length = 2) : ∃ c0 c1, l = [c0, c1] := by
  match l, h with
  | [c0, c1], _ => exact ⟨c0, c1, rfl⟩
theorem list3s {α : Type} {l : List α} (h : l.length = 3) : ∃ c0 c1 c2, l = [c0, c1, c2] := by
  match l, h with
  | [c0, c1, c2], _ => exact ⟨c0, c1, c2, rfl⟩
set_option maxRecDepth 20000 in
theorem snap_open {H : Type} {enc : TypeId × Value → H} {W : World} {n : Nat} {v0 v1 v2 v3 v4 : Value} {y : DataW H × List MemPlace}
    (h2 : DataW.trod enc Tryz.prog W 0 (fun _ => true) true n 29 [v0, v1, v2, v3, v4] = some y) :
    ∃ (s : Sn) (h : SnH), v0 = .int .i64 s.i ∧ v1 = .int .i64 s.t ∧ v2 = .slice h.va s.v.length h.vc ∧ v3 = .slice h.la s.l.length h.lc ∧ v4 = .slice h.dp s.d.length h.dc ∧ SnAt W s h := by
  obtain ⟨xs, n', _, _, _, hx, hfs⟩ := DataW.trod_struct Tryz.underlying29 h2
  obtain ⟨y0, y1, y2, rfl⟩ := list3s (show xs.length = 3 from hx)
  have tm : DataW.trod enc Tryz.prog W 0 (fun _ => true) true n' 23 [v0, v1] = some y0 := hfs 0 _ rfl
  have tb : DataW.trod enc Tryz.prog W 0 (fun _ => true) true n' 26 [v2, v3] = some y1 := hfs 1 _ rfl
  have t4 : DataW.trod enc Tryz.prog W 0 (fun _ => true) true n' 27 [v4] = some y2 := hfs 2 _ rfl
  obtain ⟨xs, n1, _, _, _, hx, hfm⟩ := DataW.trod_struct Tryz.underlying23 tm
  obtain ⟨z0, z1, rfl⟩ := list2s (show xs.length = 2 from hx)
  obtain ⟨k, e0, _, w0⟩ := DataW.trod_int Tryz.underlying3 (show DataW.trod enc Tryz.prog W 0 (fun _ => true) true n1 3 [v0] = some z0 from hfm 0 _ rfl)
  obtain ⟨j, e1, _, w1⟩ := DataW.trod_int Tryz.underlying3 (show DataW.trod enc Tryz.prog W 0 (fun _ => true) true n1 3 [v1] = some z1 from hfm 1 _ rfl)
  obtain ⟨xs, n2, _, _, _, hx, hfb⟩ := DataW.trod_struct Tryz.underlying26 tb
  obtain ⟨b0, b1, rfl⟩ := list2s (show xs.length = 2 from hx)
  have t2 : DataW.trod enc Tryz.prog W 0 (fun _ => true) true n2 24 [v2] = some b0 := hfb 0 _ rfl
  have t3 : DataW.trod enc Tryz.prog W 0 (fun _ => true) true n2 24 [v3] = some b1 := hfb 1 _ rfl
  obtain ⟨va, vl, vc, e2⟩ := Joins.slice_form Tryz.underlying24 t2
  obtain ⟨la, ll, lc, e3⟩ := Joins.slice_form Tryz.underlying24 t3
  obtain ⟨dp, dl, dc, e4⟩ := Joins.slice_form Tryz.underlying27 t4
  simp only [List.cons.injEq, and_true] at e0 e1 e2 e3 e4
  subst e0 e1 e2 e3 e4
  obtain ⟨vs, rfl, hv1, hv2⟩ := row64 (show DataW.Trod enc Tryz.prog W 0 (fun _ => true) true 24 (.slice va vl vc) b0.1 b0.2 from ⟨n2, t2⟩)
  obtain ⟨ls, rfl, hl1, hl2⟩ := row64 (show DataW.Trod enc Tryz.prog W 0 (fun _ => true) true 24 (.slice la ll lc) b1.1 b1.2 from ⟨n2, t3⟩)
  obtain ⟨ds, rfl, hc4, hx4, hb, hz, _⟩ := row8 (show DataW.Trod enc Tryz.prog W 0 (fun _ => true) true 27 (.slice dp dl dc) y2.1 y2.2 from ⟨n', t4⟩)
  exact ⟨⟨k, j, vs, ls, ds⟩, ⟨va, vc, la, lc, dp, dc⟩, rfl, rfl, rfl, rfl, rfl, i64_bounds w0, i64_bounds w1, hv2, hl2, hb, hv1, hl1, hc4, hx4, hz⟩
end Go.Proofs.YtagncghpfdjkmaaGreatDoor
end
/- Deeds of snapshots that came in, opened. -/
section
namespace Go.Proofs.YtagncghpfdjkmaaGreatDoor
open Go.ChangeShapes Go.WideShapes Go.ChangeAt Go.RowKit
set_option linter.unusedVariables false

/-- A deed: its kind, snapshot, name, what is kept. -/
structure Se where
  kind : Int
  sn : Sn
  name : ByteArray
  keep : List Int
instance : Inhabited Se := ⟨⟨0, ⟨0, 0, [], [], []⟩, ByteArray.empty, []⟩⟩
structure SeH where
  sh : SnH
  kp : Option Addr
  kc : Nat
structure SeAt (w : World) (e : Se) (h : SeH) : Prop where
  wk : -9223372036854775808 ≤ e.kind ∧ e.kind ≤ 9223372036854775807
  at_ : SnAt w e.sn h.sh
  nm : e.name.size ≤ maxLen
  sk : e.keep.length ≤ maxLen
  ks : IntsAt w h.kp e.keep
theorem SeAt.later {w w' : World} {e : Se} {h : SeH} (x : SeAt w e h) (hb : Below w.heap.size w w') : SeAt w' e h := ⟨x.wk, x.at_.later hb, x.nm, x.sk, x.ks.later hb⟩
def seRow (e : Se) (h : SeH) : List Value := [.int .i64 e.kind, .int .i64 e.sn.i, .int .i64 e.sn.t, .slice h.sh.va e.sn.v.length h.sh.vc, .slice h.sh.la e.sn.l.length h.sh.lc, .slice h.sh.dp e.sn.d.length h.sh.dc, .string e.name, .slice h.kp e.keep.length h.kc]
def seCells (e : Se) (h : SeH) (w : World) (b off : Nat) : Prop := ∀ k v, (seRow e h)[k]? = some v → w.cell? ⟨b, off + k, none⟩ = some v
structure SesAt (w : World) (a : Option Addr) (es : List Se) : Prop where
  cell : ∀ i (hi : i < es.length), ∃ b off h, a = some ⟨b, off, none⟩ ∧ seCells es[i] h w b (off + i * 8) ∧ SeAt w es[i] h
theorem cells8 {w : World} {a : Addr} {cs : List Value} (h : w.cells? 0 a 8 = some cs) : ∃ v0 v1 v2 v3 v4 v5 v6 v7, cs = [v0, v1, v2, v3, v4, v5, v6, v7] ∧ w.cell? (a.add 0) = some v0 ∧ w.cell? (a.add 1) = some v1 ∧ w.cell? (a.add 2) = some v2 ∧ w.cell? (a.add 3) = some v3 ∧ w.cell? (a.add 4) = some v4 ∧ w.cell? (a.add 5) = some v5 ∧ w.cell? (a.add 6) = some v6 ∧ w.cell? (a.add 7) = some v7 := by
  unfold World.cells? at h
  rw [if_pos (Nat.zero_le _)] at h
  simp only [show List.range 8 = [0, 1, 2, 3, 4, 5, 6, 7] from rfl, List.mapM_cons, List.mapM_nil, Option.bind_eq_bind, Option.bind_eq_some_iff, Option.pure_def, Option.some.injEq] at h
  obtain ⟨v0, h0, r, ⟨v1, h1, r1, ⟨v2, h2, r2, ⟨v3, h3, r3, ⟨v4, h4, r4, ⟨v5, h5, r5, ⟨v6, h6, r6, ⟨v7, h7, r7, rfl, rfl⟩, rfl⟩, rfl⟩, rfl⟩, rfl⟩, rfl⟩, rfl⟩, rfl⟩ := h
  exact ⟨v0, v1, v2, v3, v4, v5, v6, v7, rfl, h0, h1, h2, h3, h4, h5, h6, h7⟩
theorem list4s {α : Type} {l : List α} (h : l.length = 4) : ∃ c0 c1 c2 c3, l = [c0, c1, c2, c3] := by
  match l, h with
  | [c0, c1, c2, c3], _ => exact ⟨c0, c1, c2, c3, rfl⟩
set_option maxRecDepth 20000 in
theorem se_open {H : Type} {enc : TypeId × Value → H} {W : World} {n : Nat} {v0 v1 v2 v3 v4 v5 v6 v7 : Value} {y : DataW H × List MemPlace}
    (h2 : DataW.trod enc Tryz.prog W 0 (fun _ => true) true n 50 [v0, v1, v2, v3, v4, v5, v6, v7] = some y) :
    ∃ (e : Se) (h : SeH), [v0, v1, v2, v3, v4, v5, v6, v7] = seRow e h ∧ SeAt W e h := by
  obtain ⟨xs, n', _, _, _, hx, hfs⟩ := DataW.trod_struct Tryz.underlying50 h2
  obtain ⟨y0, y1, y2, y3, rfl⟩ := list4s (show xs.length = 4 from hx)
  obtain ⟨k, e0, _, w0⟩ := DataW.trod_int Tryz.underlying3 (show DataW.trod enc Tryz.prog W 0 (fun _ => true) true n' 3 [v0] = some y0 from hfs 0 _ rfl)
  have t1 : DataW.trod enc Tryz.prog W 0 (fun _ => true) true n' 29 [v1, v2, v3, v4, v5] = some y1 := hfs 1 _ rfl
  obtain ⟨nm, e2, _, w2⟩ := DataW.trod_string Tryz.underlying9 (show DataW.trod enc Tryz.prog W 0 (fun _ => true) true n' 9 [v6] = some y2 from hfs 2 _ rfl)
  have t3 : DataW.trod enc Tryz.prog W 0 (fun _ => true) true n' 24 [v7] = some y3 := hfs 3 _ rfl
  obtain ⟨s, h, rfl, rfl, rfl, rfl, rfl, hs⟩ := snap_open t1
  obtain ⟨a5, l5, c5, e5⟩ := Joins.slice_form Tryz.underlying24 t3
  simp only [List.cons.injEq, and_true] at e0 e2 e5
  subst e0 e2 e5
  have hs5 : DataW.Trod enc Tryz.prog W 0 (fun _ => true) true 24 (.slice a5 l5 c5) y3.1 y3.2 := ⟨n', t3⟩
  obtain ⟨ks, rfl, hk, hI⟩ := row64 hs5
  exact ⟨⟨k, s, nm, ks⟩, ⟨h, a5, c5⟩, rfl, i64_bounds w0, hs, w2, hk, hI⟩
set_option maxRecDepth 20000 in
theorem ddeeds_arg {H : Type} {enc : TypeId × Value → H} {W : World} {a : Option Addr} {len cap : Nat} {d : DataW H} {p : List MemPlace}
    (h : DataW.Trod enc Tryz.prog W 0 (fun _ => true) true 44 (.slice a len cap) d p) :
    ∃ es : List Se, es.length = len ∧ len ≤ maxLen ∧ SesAt W a es := by
  obtain ⟨fuel, hf⟩ := h
  have c8 : Tryz.prog.cellsOf 50 = 8 := by kernel_rfl
  rcases Deep.open_slice Tryz.underlying44 hf with ⟨hcs, _⟩ | ⟨x, l, c, m, n, D, Pl, hcs, _, hl, hm, hm', _, hel⟩
  · simp [Value.cells] at hcs
    obtain ⟨rfl, rfl, rfl⟩ := hcs
    exact ⟨[], rfl, by simp [maxLen], ⟨by simp⟩⟩
  · simp [Value.cells] at hcs
    obtain ⟨rfl, rfl, rfl⟩ := hcs
    have hmm : m = cap := by simpa using hm'
    rw [c8] at hel
    have hone : ∀ i, i < len → ∃ (e : Se), ∃ h : SeH, (∀ k v, (seRow e h)[k]? = some v → W.cell? ((x.add (i * 8)).add k) = some v) ∧ SeAt W e h := by
      intro i hi
      obtain ⟨cs', h1, h2⟩ := hel i (by omega)
      obtain ⟨v0, v1, v2, v3, v4, v5, v6, v7, rfl, g0, g1, g2, g3, g4, g5, g6, g7⟩ := cells8 h1
      obtain ⟨e, h, he, hd⟩ := se_open h2
      refine ⟨e, h, fun k v hv => ?_, hd⟩
      rw [← he] at hv
      match k, hv with
      | 0, hv => rw [← Option.some.inj hv]; exact g0
      | 1, hv => rw [← Option.some.inj hv]; exact g1
      | 2, hv => rw [← Option.some.inj hv]; exact g2
      | 3, hv => rw [← Option.some.inj hv]; exact g3
      | 4, hv => rw [← Option.some.inj hv]; exact g4
      | 5, hv => rw [← Option.some.inj hv]; exact g5
      | 6, hv => rw [← Option.some.inj hv]; exact g6
      | 7, hv => rw [← Option.some.inj hv]; exact g7
      | k + 8, hv => simp at hv
    obtain ⟨f, hfp⟩ := Deep.choose_lt (n := len) (p := fun i (e : Se) => ∃ h : SeH, (∀ k v, (seRow e h)[k]? = some v → W.cell? ((x.add (i * 8)).add k) = some v) ∧ SeAt W e h) hone
    refine ⟨(List.range len).map f, by simp, by omega, ⟨fun i hi => ?_⟩⟩
    simp only [List.length_map, List.length_range] at hi
    obtain ⟨h, h0, h6⟩ := hfp i hi
    have e : ((List.range len).map f)[i]'(by simpa using hi) = f i := by simp
    rw [e]
    obtain ⟨b, off, spot⟩ := x
    obtain ⟨_, h00, _⟩ := hfp 0 (by omega)
    have hspot : spot = none := by simpa [Addr.add] using World.cell?_spot (h00 0 _ rfl)
    subst hspot
    refine ⟨b, off, h, rfl, fun k v hv => ?_, h6⟩
    have := h0 k v hv
    rwa [Addr.add_lit, Addr.add_lit] at this
end Go.Proofs.YtagncghpfdjkmaaGreatDoor
end
/- Small aids: a remainder as a number, b[:n]. -/
section
namespace Go.Proofs.YtagncghpfdjkmaaGreatDoor
open Go.ChangeShapes Go.WideShapes Go.ChangeAt Go.RowKit
end Go.Proofs.YtagncghpfdjkmaaGreatDoor
end
/- Next and All with the length apart. -/
section
namespace Go.Proofs.YtagncghpfdjkmaaGreatDoor
open Go.ChangeShapes Go.WideShapes Go.ChangeAt Go.RowKit

theorem next_any' (a : Option Addr) (n c : Nat) (l : List Nat) (k : Nat) (kk : Int) (w : World) (hkk : kk = (k : Int)) (hn : l.length = n) (hl : l.length ≤ maxLen) (hc : l.length ≤ c) (hk : k ≤ l.length) (hb : BytesAt w a l) :
    Calls Tryz.prog 58 #[.slice a n c, .int .i64 kk] w fun e w' => Below w.heap.size w w' ∧
      ((0 < nextE l k ∧ e = .returned (.tuple #[.slice none 0 0, .int .i64 0, .int .i64 (nextE l k : Nat)])) ∨
       (nextE l k = 0 ∧ ∃ g, e = .returned (.tuple #[.slice (some ⟨g, 0, none⟩) (nextH l k).length (nextH l k).length, .int .i64 ((k + 8 + (nextH l k).length : Nat) : Int), .int .i64 0]) ∧ w.heap.size ≤ g ∧ w'.heap[g]? = some (.cells ((nextH l k).map byteV).toArray 5 (0, 0)))) := by
  subst hn; subst hkk; exact next_any a c l k w hl hc hk hb
/-- Next at a place where there is an error. -/
theorem next_err' (a : Option Addr) (n c : Nat) (l : List Nat) (k : Nat) (kk : Int) (w : World) (hkk : kk = (k : Int)) (hn : l.length = n) (hl : l.length ≤ maxLen) (hc : l.length ≤ c) (hk : k ≤ l.length) (hb : BytesAt w a l) (E : Nat) (he : nextE l k = E) (hE : 0 < E) :
    Calls Tryz.prog 58 #[.slice a n c, .int .i64 kk] w fun e w' => e = .returned (.tuple #[.slice none 0 0, .int .i64 0, .int .i64 (E : Int)]) ∧ Below w.heap.size w w' := by
  refine (next_any' a n c l k kk w hkk hn hl hc hk hb).mono ?_
  rintro e w' ⟨hbw, ⟨_, rfl⟩ | ⟨h0, _⟩⟩
  · exact ⟨by rw [he], hbw⟩
  · omega
/-- A frame that is cut short is none. -/
theorem cut_next (l : List Nat) (n : Nat) (hl : l.length ≤ 65536) (hn : n < 8 + l.length) : nextE ((frameB l).take n) 0 = 3 := by
  unfold nextE
  have hlen : ((frameB l).take n).length = n := by rw [List.length_take, frameB_length]; omega
  rw [hlen, Nat.sub_zero, List.drop_zero]
  by_cases h8 : n < 8
  · rw [if_pos h8]
  · have hd : (frameB l).drop 0 = word4 l.length ++ (word4 (fsum l.length l) ++ (l ++ [])) := by rw [List.drop_zero, List.append_nil]; rfl
    have hnum : num4 ((frameB l).take n) = l.length := by
      have e : num4 (((frameB l).take n).take 4) = num4 ((frameB l).take 4) := by rw [List.take_take, Nat.min_eq_left (by omega)]
      rw [num4_take, num4_take] at e
      rw [e]
      exact num4_word4 l.length _
    rw [if_neg h8, hnum, if_neg (by omega), if_pos (by omega)]
end Go.Proofs.YtagncghpfdjkmaaGreatDoor
end
/- Frames one behind the other, cut anywhere (plain); rows of bytes of the call's own. -/
section
namespace Go.Proofs.YtagncghpfdjkmaaGreatDoor
open Go.ChangeShapes Go.WideShapes Go.ChangeAt Go.RowKit

def cat : List (List Nat) → List Nat
  | [] => []
  | h :: r => frameB h ++ cat r
theorem nextE_nil : nextE [] 0 = 3 := by decide
/-- Where frames are cut: whole ones, and a piece that is none. -/
theorem cut_at : ∀ (hs : List (List Nat)) (N : Nat), (∀ h ∈ hs, h.length ≤ 65536) → N ≤ (cat hs).length → ∃ m t, m ≤ hs.length ∧ (cat hs).take N = cat (hs.take m) ++ t ∧ nextE t 0 = 3 ∧ (∀ k, k < m → (cat (hs.take (k + 1))).length ≤ N) ∧ (m < hs.length → N < (cat (hs.take (m + 1))).length)
  | [], N, _, hN => by
    have : N = 0 := by simpa [cat] using hN
    subst this
    exact ⟨0, [], Nat.le_refl _, by simp [cat], nextE_nil, fun k hk => by omega, fun h => by simp at h⟩
  | h :: r, N, hl, hN => by
    have hh := hl h (by simp)
    have hF := frameB_length h
    by_cases hc : N < 8 + h.length
    · refine ⟨0, (frameB h).take N, Nat.zero_le _, ?_, cut_next h N hh hc, fun k hk => by omega, fun _ => ?_⟩
      · simp only [cat, List.take_zero, List.nil_append]
        rw [List.take_append_of_le_length (by omega)]
      · simp only [cat, List.take_succ_cons, List.take_zero, List.append_nil]
        omega
    · have hN' : N - (8 + h.length) ≤ (cat r).length := by
        simp only [cat, List.length_append] at hN
        omega
      obtain ⟨m, t, h1, h2, h3, h4, h5⟩ := cut_at r (N - (8 + h.length)) (fun x hx => hl x (by simp [hx])) hN'
      refine ⟨m + 1, t, by simpa using h1, ?_, h3, fun k hk => ?_, fun hm => ?_⟩
      · simp only [cat, List.take_succ_cons, List.append_assoc]
        rw [← h2, List.take_append, List.take_of_length_le (by omega), hF]
      · cases k with
        | zero => simp only [cat, List.take_succ_cons, List.take_zero, List.append_nil]; omega
        | succ k =>
          have := h4 k (by omega)
          simp only [cat, List.take_succ_cons, List.length_append]
          omega
      · have := h5 (by simpa using hm)
        simp only [cat, List.take_succ_cons, List.length_append]
        omega
theorem OwnS.at {base : Nat} {w : World} {sp : Option Addr} {n c : Nat} {hs : List (List Nat)} (h : OwnS base w (.slice sp n c) hs) (i : Nat) (hi : i < hs.length) : ∃ g p pc, sp = some ⟨g, 0, none⟩ ∧ w.cell? ⟨g, i, none⟩ = some (.slice p (hs.getD i []).length pc) ∧ OwnB base w p pc (hs.getD i []) := by
  obtain ⟨cs, ho, hc⟩ := h.ex
  obtain ⟨p, pc, h1, h2⟩ := hc i hi
  rcases ho.2 with ⟨hv, h0⟩ | ⟨g, cap, cur, hv, _, hg, _, _, _, ht⟩
  · omega
  · simp only [Value.slice.injEq] at hv
    refine ⟨g, p, pc, hv.1, ?_, h2⟩
    rw [cell_of_row w g i cur _ _ hg]
    rw [← ht, List.getElem?_take, if_pos (by omega)] at h1
    rw [← Array.getElem?_toList]
    exact h1
end Go.Proofs.YtagncghpfdjkmaaGreatDoor
end
