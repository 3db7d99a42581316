/- Snapshots: bytes in pieces. -/
import Derived.Test.YtagncghpfdjkmaaGreatDoorB25
import Derived.Deep.QuietTactic
import Derived.BigQuiet
import Derived.Test.YtagncghpfdjkmaaGreatDoorB08
import Derived.Test.YtagncghpfdjkmaaGreatDoorB09
import Derived.Test.YtagncghpfdjkmaaGreatDoorB15
import Derived.Test.YtagncghpfdjkmaaGreatDoorB10
import Derived.Test.YtagncghpfdjkmaaGreatDoorB17
import Derived.Test.YtagncghpfdjkmaaGreatDoorB07
import Derived.Lib.SmallJoins
section
namespace Go.Proofs.YtagncghpfdjkmaaGreatDoor
open Go.ChangeShapes Go.WideShapes Go.ChangeAt Go.RowKit
set_option linter.unusedVariables false

/-- One piece: of how many bytes it is, where its own stand, and these. -/
def pieceB (l : List Nat) (sz k : Nat) : List Nat := numB l.length ++ (numB k ++ (l.drop k).take sz)
def pcs (l : List Nat) (sz : Nat) : Nat → Bool → Nat → List (List Nat)
  | 0, _, _ => []
  | f + 1, b, k => if k < l.length ∨ b = true then pieceB l sz k :: pcs l sz f false (k + min sz (l.length - k)) else []
def piecesL (l : List Nat) (sz : Nat) : List (List Nat) := pcs l sz (l.length + 1) true 0
/-- How Pieces ends. -/
def PcEnd (l : List Nat) (z : Int) (w : World) (e : Ending) (w' : World) : Prop := Below w.heap.size w w' ∧ ((z < 1 ∧ e = .returned (.tuple #[.slice none 0 0, .int .i64 2])) ∨ (1 ≤ z ∧ 32768 < l.length ∧ e = .returned (.tuple #[.slice none 0 0, .int .i64 6])) ∨
  (1 ≤ z ∧ l.length ≤ 32768 ∧ ∃ v, e = .returned (.tuple #[v, .int .i64 0]) ∧ OwnS w.heap.size w' v (piecesL l z.toNat)))
theorem pcs_go {l : List Nat} {sz f k : Nat} {b : Bool} (h : k < l.length ∨ b = true) : pcs l sz (f + 1) b k = pieceB l sz k :: pcs l sz f false (k + min sz (l.length - k)) := by
  rw [pcs, if_pos h]
theorem pcs_end {l : List Nat} {sz k : Nat} (h : ¬ k < l.length) : ∀ f, pcs l sz f false k = []
  | 0 => rfl
  | f + 1 => by rw [pcs, if_neg (by simpa using h)]
set_option maxRecDepth 20000 in
set_option maxHeartbeats 16000000 in
theorem pieces_calls (a : Option Addr) (n c : Nat) (l : List Nat) (z : Int) (w : World) (hn : l.length = n) (hc : n ≤ c) (hcm : c ≤ 140737488355328) (hb : BytesAt w a l) (hz : a = none → c = 0) (hzb : z ≤ 9223372036854775807) :
    Calls Tryz.prog 40 #[.slice a n c, .int .i64 z] w (PcEnd l z w) := by
  by_cases h1 : z < 1
  · have FF := hide (show PcEnd l z w (.returned (.tuple #[.slice none 0 0, .int .i64 2])) w from ⟨Below.refl _ _, .inl ⟨h1, rfl⟩⟩)
    clear hb hn
    go_enter Tryz.func40, Tryz.ntmps40
    go_wp2
    go_ret2
    exact unhide FF
  by_cases h2 : 32768 < n
  · have y2 : (32768 : Int) < (n : Int) := by omega
    have FF := hide (show PcEnd l z w (.returned (.tuple #[.slice none 0 0, .int .i64 6])) w from ⟨Below.refl _ _, .inr (.inl ⟨by omega, by omega, rfl⟩)⟩)
    clear hb hn
    go_enter Tryz.func40, Tryz.ntmps40
    go_wp2
    go_ret2
    exact unhide FF
  have y2 : ¬ (32768 : Int) < (n : Int) := by omega
  obtain ⟨sz, rfl⟩ : ∃ sz : Nat, z = (sz : Int) := ⟨z.toNat, by omega⟩
  have hsz : 1 ≤ sz := by omega
  have HB := hide hb
  have HN := hide hn
  have HZ := hide hz
  have FE := hide (show ∀ v V, OwnS w.heap.size V v (piecesL l sz) → Below w.heap.size w V → PcEnd l (sz : Int) w (.returned (.tuple #[v, .int .i64 0])) V from fun v V ho u => ⟨u, .inr (.inr ⟨by omega, by omega, v, rfl, by rw [Int.toNat_natCast]; exact ho⟩)⟩)
  have h1' : ¬ (sz : Int) < 1 := by omega
  clear hb hn hz
  go_enter Tryz.func40, Tryz.ntmps40
  go_wp2_with fail
  go_loopw [6, 7] (fun v q wr => ∃ (k f : Nat) (rows : List (List Nat)) (sp : Option Addr) (m cc : Nat), k ≤ n ∧ q = .int .i64 (k : Int) ∧ v = .slice sp m cc ∧ Hid (rows.length = m) ∧ m ≤ k + 1 ∧ Hid (OwnS w.heap.size wr (.slice sp m cc) rows) ∧ Hid (rows ++ pcs l sz f (decide (m = 0)) k = piecesL l sz) ∧ n + (if m = 0 then 1 else 0) ≤ f + k ∧ (m ≠ 0 → (0 < k ∨ n = 0)) ∧ Hid (Below w.heap.size w wr)) (fun v q _ => 2 * (n - (intOf q).toNat) + (if (match v with | .slice _ m _ => m | _ => 0) = 0 then 1 else 0))
  case atStart => exact ⟨0, n + 1, [], none, 0, 0, by omega, rfl, rfl, hide rfl, by omega, hide (OwnS.ofNil _ _), hide (by rw [← unhide HN]; rfl), by simp, by omega, hide (Below.refl _ _)⟩
  case round =>
    obtain ⟨k, f, rows, sp, m, cc, hk, rfl, rfl, HM, hmk, OS, PQ, hf, hm0, F⟩ := hrel
    by_cases hkn0 : k < n
    · have hkn : (k : Int) < (n : Int) := by omega
      have hw1 : IntKind.i64.wrap ((n : Int) - (k : Int)) = ((n - k : Nat) : Int) := by rw [IntKind.wrap_i64]; omega
      have hmn : min (sz : Int) ((n - k : Nat) : Int) = ((min sz (n - k) : Nat) : Int) := by omega
      have hw2 : IntKind.i64.wrap ((k : Int) + ((min sz (n - k) : Nat) : Int)) = ((k + min sz (n - k) : Nat) : Int) := by rw [IntKind.wrap_i64]; omega
      have hkk : k + min sz (n - k) ≤ n := by omega
      have hsl : ∀ u, (Instr.slice 27 (.slice a n c) (some (.int .i64 (k : Int))) (some (.int .i64 ((k + min sz (n - k) : Nat) : Int))) none).run Tryz.prog u = .ok (.slice (slp a k c) (k + min sz (n - k) - k) (c - k)) u := fun u => run_slice_lh8 a n c k (k + min sz (n - k)) (by omega) (by omega) u
      obtain ⟨f', rfl⟩ : ∃ f', f = f' + 1 := ⟨f - 1, by split at hf <;> omega⟩
      have PQ' := hide (show (rows ++ [pieceB l sz k]) ++ pcs l sz f' (decide (m + 1 = 0)) (k + min sz (n - k)) = piecesL l sz from by
        rw [← unhide PQ, pcs_go (by rw [unhide HN]; exact .inl hkn0), unhide HN, List.append_assoc]
        simp)
      have hdrop := ((unhide HB).later (unhide F)).drop k c (by rw [unhide HN]; exact hc)
      have HPB := hide (show BytesAt wr (slp a k c) ((l.drop k).take (k + min sz (n - k) - k)) from hdrop.take _)
      have HPL := hide (show ((l.drop k).take (k + min sz (n - k) - k)).length = k + min sz (n - k) - k by rw [List.length_take, List.length_drop, unhide HN]; omega)
      have HPE := hide (show (l.drop k).take (k + min sz (n - k) - k) = (l.drop k).take sz by
        rw [show k + min sz (n - k) - k = min sz (n - k) by omega]
        by_cases hq : sz ≤ n - k
        · rw [Nat.min_eq_left hq]
        · rw [Nat.min_eq_right (by omega), List.take_of_length_le (by rw [List.length_drop, unhide HN]; omega), List.take_of_length_le (by rw [List.length_drop, unhide HN]; omega)])
      have HPZ := hide (show slp a k c = none → c - k = 0 from fun e => slp_none e (unhide HZ))
      have A1 := hide (saddNumber_calls (w := wr) (sp := none) (c := 0) (b := []) wr.heap.size 0 n rfl (OwnB.ofNil _ _) (by simp) (by omega) (Nat.le_refl _))
      generalize slp a k c = pa at *
      generalize hke : k + min sz (n - k) = ke at *
      generalize hkl : ke - k = kl at *
      go_wp2_with fail
      go_at_call 52
      refine (unhide A1).mono ?_
      rintro e V1 ⟨sp1, n1, c1, rfl, hn1, ho1, v1⟩
      have A2 := hide (saddNumber_calls (w := V1) wr.heap.size n1 k (unhide hn1) ho1 (by have := numB_six n (by omega); simp; omega) (by omega) v1.size)
      have U1 := hide v1
      clear v1 hn1 ho1 A1
      go_wp2_with fail
      go_at_call 52
      refine (unhide A2).mono ?_
      rintro e V2 ⟨sp2, n2, c2, rfl, hn2, ho2, v2⟩
      have U2 := hide ((unhide U1).trans v2)
      have O2 := hide ho2
      have N2 := hide (unhide hn2)
      have L2 := hide (show ([] ++ numB n ++ numB k).length ≤ 12 by have h1 := numB_six n (by omega); have h2 := numB_six k (by omega); simp only [List.length_append, List.length_nil]; omega)
      have HB2 := hide ((unhide HPB).later (unhide U2))
      have OS2 := hide ((unhide OS).later (unhide U2))
      have F2 := hide ((unhide F).trans ((unhide U2).mono (unhide F).size))
      clear v2 hn2 ho2 A2
      go_wp2_with (first
        | (have hV : O2 = O2 := rfl; clear hV
           at_builtin
           refine wpList_append8 rfl (.tmp 38) (.tmp 42) rfl wr.heap.size sp2 n2 c2 ([] ++ numB n ++ numB k) rfl (unhide N2) (by exact unhide O2) pa kl (c - k) rfl ((l.drop k).take kl) (unhide HPL) (by exact unhide HB2) (unhide HPZ) (by have := unhide L2; omega) (by exact (unhide U2).size) ?_
           intro sp3 n3 c3 V3 hn3 ho3 hg3 hb3
           have EQ3 : [] ++ numB n ++ numB k ++ (l.drop k).take kl = pieceB l sz k := by rw [unhide HPE]; unfold pieceB; rw [unhide HN]; simp only [List.nil_append, List.append_assoc]
           rw [EQ3] at hn3 ho3
           have O3 := hide (ho3.mono (unhide F).size)
           have N3 := hide (unhide hn3)
           have U3 := hide ((unhide U2).trans hb3)
           have F3 := hide ((unhide F).trans ((unhide U3).mono (unhide F).size))
           have OS3 := hide ((unhide OS).later (unhide U3))
           have UB := hide ((Below.refl V3.heap.size V3).alloc (Nat.le_refl _) (.cells #[.slice sp3 n3 c3] 27))
           have XB := hide (heap_new V3 (.cells #[.slice sp3 n3 c3] 27))
           have O4 := hide ((unhide O3).later (unhide UB))
           have OS4 := hide ((unhide OS3).later (unhide UB))
           have F4 := hide ((unhide F3).trans ((unhide UB).mono (unhide F3).size))
           clear ho3 hg3 hb3 EQ3 hn3 O2)
        | (have hV : OS4 = OS4 := rfl; clear hV
           at_builtin
           refine wpList_appendS rfl (.tmp 37) (.tmp 44) rfl w.heap.size (.slice sp m cc) rows rfl (by exact unhide OS4) V3.heap.size rfl sp3 c3 (pieceB l sz k) (by rw [unhide N3]; exact box_cell (unhide XB) 0 _ rfl) (by exact unhide O4) (by rw [unhide HM]; omega) (by exact (unhide F4).size) ?_
           intro v5 V5 ho5 hb5
           obtain ⟨sp5, c5, rfl⟩ := ho5.form
           have F5 := hide ((unhide F4).trans hb5)
           have LEN := hide (show (rows ++ [pieceB l sz k]).length = m + 1 by rw [List.length_append, unhide HM]; rfl)
           rw [unhide LEN] at ho5 ⊢
           have OS5 := hide ho5
           clear ho5 hb5 OS4))
      exact ⟨⟨ke, f', rows ++ [pieceB l sz k], sp5, m + 1, c5, by omega, rfl, rfl, LEN, by omega, OS5, PQ', by split at hf <;> simp <;> omega, by omega, F5⟩, by simp [intOf]; omega⟩
    · by_cases hmz : m = 0
      · subst hmz
        have hkn : ¬ (k : Int) < (n : Int) := by omega
        have hw1 : IntKind.i64.wrap ((n : Int) - (k : Int)) = ((n - k : Nat) : Int) := by rw [IntKind.wrap_i64]; omega
        have hmn : min (sz : Int) ((n - k : Nat) : Int) = ((min sz (n - k) : Nat) : Int) := by omega
        have hw2 : IntKind.i64.wrap ((k : Int) + ((min sz (n - k) : Nat) : Int)) = ((k + min sz (n - k) : Nat) : Int) := by rw [IntKind.wrap_i64]; omega
        have hkk : k + min sz (n - k) ≤ n := by omega
        have hsl : ∀ u, (Instr.slice 27 (.slice a n c) (some (.int .i64 (k : Int))) (some (.int .i64 ((k + min sz (n - k) : Nat) : Int))) none).run Tryz.prog u = .ok (.slice (slp a k c) (k + min sz (n - k) - k) (c - k)) u := fun u => run_slice_lh8 a n c k (k + min sz (n - k)) (by omega) (by omega) u
        obtain ⟨f', rfl⟩ : ∃ f', f = f' + 1 := ⟨f - 1, by split at hf <;> omega⟩
        have PQ' := hide (show (rows ++ [pieceB l sz k]) ++ pcs l sz f' (decide (0 + 1 = 0)) (k + min sz (n - k)) = piecesL l sz from by
          rw [← unhide PQ, pcs_go (by rw [unhide HN]; exact .inr rfl), unhide HN, List.append_assoc]
          simp)
        have hdrop := ((unhide HB).later (unhide F)).drop k c (by rw [unhide HN]; exact hc)
        have HPB := hide (show BytesAt wr (slp a k c) ((l.drop k).take (k + min sz (n - k) - k)) from hdrop.take _)
        have HPL := hide (show ((l.drop k).take (k + min sz (n - k) - k)).length = k + min sz (n - k) - k by rw [List.length_take, List.length_drop, unhide HN]; omega)
        have HPE := hide (show (l.drop k).take (k + min sz (n - k) - k) = (l.drop k).take sz by
          rw [show k + min sz (n - k) - k = min sz (n - k) by omega]
          by_cases hq : sz ≤ n - k
          · rw [Nat.min_eq_left hq]
          · rw [Nat.min_eq_right (by omega), List.take_of_length_le (by rw [List.length_drop, unhide HN]; omega), List.take_of_length_le (by rw [List.length_drop, unhide HN]; omega)])
        have HPZ := hide (show slp a k c = none → c - k = 0 from fun e => slp_none e (unhide HZ))
        have A1 := hide (saddNumber_calls (w := wr) (sp := none) (c := 0) (b := []) wr.heap.size 0 n rfl (OwnB.ofNil _ _) (by simp) (by omega) (Nat.le_refl _))
        generalize slp a k c = pa at *
        generalize hke : k + min sz (n - k) = ke at *
        generalize hkl : ke - k = kl at *
        go_wp2_with fail
        go_at_call 52
        refine (unhide A1).mono ?_
        rintro e V1 ⟨sp1, n1, c1, rfl, hn1, ho1, v1⟩
        have A2 := hide (saddNumber_calls (w := V1) wr.heap.size n1 k (unhide hn1) ho1 (by have := numB_six n (by omega); simp; omega) (by omega) v1.size)
        have U1 := hide v1
        clear v1 hn1 ho1 A1
        go_wp2_with fail
        go_at_call 52
        refine (unhide A2).mono ?_
        rintro e V2 ⟨sp2, n2, c2, rfl, hn2, ho2, v2⟩
        have U2 := hide ((unhide U1).trans v2)
        have O2 := hide ho2
        have N2 := hide (unhide hn2)
        have L2 := hide (show ([] ++ numB n ++ numB k).length ≤ 12 by have h1 := numB_six n (by omega); have h2 := numB_six k (by omega); simp only [List.length_append, List.length_nil]; omega)
        have HB2 := hide ((unhide HPB).later (unhide U2))
        have OS2 := hide ((unhide OS).later (unhide U2))
        have F2 := hide ((unhide F).trans ((unhide U2).mono (unhide F).size))
        clear v2 hn2 ho2 A2
        go_wp2_with (first
          | (have hV : O2 = O2 := rfl; clear hV
             at_builtin
             refine wpList_append8 rfl (.tmp 38) (.tmp 42) rfl wr.heap.size sp2 n2 c2 ([] ++ numB n ++ numB k) rfl (unhide N2) (by exact unhide O2) pa kl (c - k) rfl ((l.drop k).take kl) (unhide HPL) (by exact unhide HB2) (unhide HPZ) (by have := unhide L2; omega) (by exact (unhide U2).size) ?_
             intro sp3 n3 c3 V3 hn3 ho3 hg3 hb3
             have EQ3 : [] ++ numB n ++ numB k ++ (l.drop k).take kl = pieceB l sz k := by rw [unhide HPE]; unfold pieceB; rw [unhide HN]; simp only [List.nil_append, List.append_assoc]
             rw [EQ3] at hn3 ho3
             have O3 := hide (ho3.mono (unhide F).size)
             have N3 := hide (unhide hn3)
             have U3 := hide ((unhide U2).trans hb3)
             have F3 := hide ((unhide F).trans ((unhide U3).mono (unhide F).size))
             have OS3 := hide ((unhide OS).later (unhide U3))
             have UB := hide ((Below.refl V3.heap.size V3).alloc (Nat.le_refl _) (.cells #[.slice sp3 n3 c3] 27))
             have XB := hide (heap_new V3 (.cells #[.slice sp3 n3 c3] 27))
             have O4 := hide ((unhide O3).later (unhide UB))
             have OS4 := hide ((unhide OS3).later (unhide UB))
             have F4 := hide ((unhide F3).trans ((unhide UB).mono (unhide F3).size))
             clear ho3 hg3 hb3 EQ3 hn3 O2)
          | (have hV : OS4 = OS4 := rfl; clear hV
             at_builtin
             refine wpList_appendS rfl (.tmp 37) (.tmp 44) rfl w.heap.size (.slice sp 0 cc) rows rfl (by exact unhide OS4) V3.heap.size rfl sp3 c3 (pieceB l sz k) (by rw [unhide N3]; exact box_cell (unhide XB) 0 _ rfl) (by exact unhide O4) (by rw [unhide HM]; omega) (by exact (unhide F4).size) ?_
             intro v5 V5 ho5 hb5
             obtain ⟨sp5, c5, rfl⟩ := ho5.form
             have F5 := hide ((unhide F4).trans hb5)
             have LEN := hide (show (rows ++ [pieceB l sz k]).length = 0 + 1 by rw [List.length_append, unhide HM]; rfl)
             rw [unhide LEN] at ho5 ⊢
             have OS5 := hide ho5
             clear ho5 hb5 OS4))
        exact ⟨⟨ke, f', rows ++ [pieceB l sz k], sp5, 0 + 1, c5, by omega, rfl, rfl, LEN, by omega, OS5, PQ', by split at hf <;> simp <;> omega, by omega, F5⟩, by simp [intOf]; omega⟩
      · have hkn : ¬ (k : Int) < (n : Int) := by omega
        have hm1 : ¬ (m : Int) = 0 := by omega
        have hm2 : ((m : Int) == 0) = false := by simp; omega
        have PE := hide (show rows = piecesL l sz from by
          rw [← unhide PQ, decide_eq_false hmz, pcs_end (by rw [unhide HN]; exact hkn0), List.append_nil])
        have FF := hide (unhide FE (.slice sp m cc) wr (by rw [← unhide PE]; exact unhide OS) (unhide F))
        clear FE
        go_wp2
        go_ret2
        exact unhide FF
end Go.Proofs.YtagncghpfdjkmaaGreatDoor
end
/- Snapshots: small ones; live. -/
section
namespace Go.Proofs.YtagncghpfdjkmaaGreatDoor
open Go.ChangeShapes Go.WideShapes Go.ChangeAt Go.RowKit
set_option linter.unusedVariables false

def ofS (n : Nat) : Sn := ⟨n, 1, [1], [], [120]⟩
theorem of_world (w : World) (o : Obj) : Below w.heap.size w (((w.alloc o).alloc (.cells #[.int .i64 1] 3)).alloc (.cells #[.int .u8 120] 5 (1, 2))) ∧ (((w.alloc o).alloc (.cells #[.int .i64 1] 3)).alloc (.cells #[.int .u8 120] 5 (1, 2))).heap[w.heap.size]? = some o ∧ IntsAt (((w.alloc o).alloc (.cells #[.int .i64 1] 3)).alloc (.cells #[.int .u8 120] 5 (1, 2))) (some ⟨w.heap.size + 1, 0, none⟩) [1] ∧ BytesAt (((w.alloc o).alloc (.cells #[.int .i64 1] 3)).alloc (.cells #[.int .u8 120] 5 (1, 2))) (some ⟨w.heap.size + 1 + 1, 0, none⟩) [120] := by
  have a1 : Below w.heap.size w (w.alloc o) := (Below.refl _ _).alloc (Nat.le_refl _) _
  have hs1 : (w.alloc o).heap.size = w.heap.size + 1 := by simp
  have a2 : Below (w.alloc o).heap.size (w.alloc o) ((w.alloc o).alloc (.cells #[.int .i64 1] 3)) := (Below.refl _ _).alloc (Nat.le_refl _) _
  have hs2 : ((w.alloc o).alloc (.cells #[.int .i64 1] 3)).heap.size = w.heap.size + 1 + 1 := by simp
  have a3 : Below ((w.alloc o).alloc (.cells #[.int .i64 1] 3)).heap.size ((w.alloc o).alloc (.cells #[.int .i64 1] 3)) (((w.alloc o).alloc (.cells #[.int .i64 1] 3)).alloc (.cells #[.int .u8 120] 5 (1, 2))) := (Below.refl _ _).alloc (Nat.le_refl _) _
  refine ⟨(a1.trans (a2.mono a1.size)).trans (a3.mono (a1.trans (a2.mono a1.size)).size), later_block a3 (later_block a2 (heap_new w o)), ?_, ?_⟩
  · have := (lit_ints (w.alloc o) [1] (by decide)).later a3
    rw [hs1] at this
    exact this
  · have := lit_bytes ((w.alloc o).alloc (.cells #[.int .i64 1] 3)) [120] (1, 2) (by decide)
    rw [hs2] at this
    exact this
set_option maxRecDepth 20000 in
set_option maxHeartbeats 4000000 in
theorem of_calls (n : Nat) (hn : n ≤ 1099511627776) (w : World) : Calls Tryz.prog 37 #[.int .i64 (n : Int)] w fun e w' => ∃ h, e = .returned (.agg (snRow (ofS n) h)) ∧ SnAt w' (ofS n) h ∧ Below w.heap.size w w' := by
  have kc := fun (w : World) (C : Array Value) (n c : Nat) => Lib.run_convert_bytes_const (P := Tryz.prog) w 27 5 C n c Tryz.underlying27 Tryz.underlying5
  have kc2 := kc ((w.alloc (.cells #[.int .i64 0, .int .i64 0, .slice none 0 0, .slice none 0 0, .slice none 0 0] 29)).alloc (.cells #[.int .i64 1] 3)) #[.int .u8 120] 1 1
  rw [show ((w.alloc (.cells #[.int .i64 0, .int .i64 0, .slice none 0 0, .slice none 0 0, .slice none 0 0] 29)).alloc (.cells #[.int .i64 1] 3)).heap.size = w.heap.size + 1 + 1 by simp] at kc2
  rw [show ((#[.int .u8 120] : Array Value).size, (#[.int .u8 120] : Array Value).size + 1) = (1, 2) from rfl] at kc2
  obtain ⟨u3, hr, i3, b3⟩ := of_world w (.cells #[.int .i64 (n : Int), .int .i64 1, .slice (some ⟨w.heap.size + 1, 0, none⟩) 1 1, .slice none 0 0, .slice (some ⟨w.heap.size + 1 + 1, 0, none⟩) 1 1] 29)
  have y0 := box_cell hr 0 _ rfl
  have y1 := box_cell hr 1 _ rfl
  have y2 := box_cell hr 2 _ rfl
  have y3 := box_cell hr 3 _ rfl
  have y4 := box_cell hr 4 _ rfl
  have FF := hide (show ∃ h, Ending.returned (.agg #[.int .i64 (n : Int), .int .i64 1, .slice (some ⟨w.heap.size + 1, 0, none⟩) 1 1, .slice none 0 0, .slice (some ⟨w.heap.size + 1 + 1, 0, none⟩) 1 1]) = .returned (.agg (snRow (ofS n) h)) ∧ SnAt (((w.alloc (.cells #[.int .i64 (n : Int), .int .i64 1, .slice (some ⟨w.heap.size + 1, 0, none⟩) 1 1, .slice none 0 0, .slice (some ⟨w.heap.size + 1 + 1, 0, none⟩) 1 1] 29)).alloc (.cells #[.int .i64 1] 3)).alloc (.cells #[.int .u8 120] 5 (1, 2))) (ofS n) h ∧ Below w.heap.size w (((w.alloc (.cells #[.int .i64 (n : Int), .int .i64 1, .slice (some ⟨w.heap.size + 1, 0, none⟩) 1 1, .slice none 0 0, .slice (some ⟨w.heap.size + 1 + 1, 0, none⟩) 1 1] 29)).alloc (.cells #[.int .i64 1] 3)).alloc (.cells #[.int .u8 120] 5 (1, 2))) from
    ⟨⟨some ⟨w.heap.size + 1, 0, none⟩, 1, none, 0, some ⟨w.heap.size + 1 + 1, 0, none⟩, 1⟩, rfl, ⟨by unfold ofS; dsimp only; omega, by unfold ofS; dsimp only; omega, i3, ⟨by simp [ofS], fun i hi => by simp [ofS] at hi⟩, b3, by simp [ofS, maxLen], by simp [ofS], by simp [ofS], by simp [maxLen], fun e => by cases e⟩, u3⟩)
  clear u3 hr i3 b3 kc
  go_enter Tryz.func37, Tryz.ntmps37
  go_wp2
  refine bodyPost_ret (v := .agg #[.int .i64 (n : Int), .int .i64 1, .slice (some ⟨w.heap.size + 1, 0, none⟩) 1 1, .slice none 0 0, .slice (some ⟨w.heap.size + 1 + 1, 0, none⟩) 1 1]) (by simp [results, Tryz.results37, go_sem, y0, y1, y2, y3, y4]) rfl ?_
  exact unhide FF
/-- What is asked of live, plainly. -/
theorem live_1 : (sSave 1000 (ofS 3) []).1 = 0 := by kernel_rfl
theorem live_2 : (sSave 1000 (ofS 12) (sSave 1000 (ofS 3) []).2).1 = 0 := by kernel_rfl
theorem live_3 : ((sSave 1000 (ofS 12) (sSave 1000 (ofS 3) []).2).2.map (·.1)) = [snNm 12] := by kernel_rfl
theorem live_4 : (sLoad (sSave 1000 (ofS 12) (sSave 1000 (ofS 3) []).2).2).map (·.i) = some 12 := by kernel_rfl
theorem live_5 : piecesL [97, 98, 99] 2 = [[3, 0, 97, 98], [3, 2, 99]] := by kernel_rfl
end Go.Proofs.YtagncghpfdjkmaaGreatDoor
end
/- Texts held against each other (the document's SameTexts). -/
section
namespace Go.Proofs.YtagncghpfdjkmaaGreatDoor
open Go.ChangeShapes Go.WideShapes Go.ChangeAt Go.RowKit Go.Maps

set_option maxRecDepth 20000 in
set_option maxHeartbeats 4000000 in
theorem sameTexts_yes (b1 b2 : Nat) (w : World) (l : List Nm) (n : Nat) (hn : l.length = n) (h16 : n ≤ 1000) (a b : Option Addr) (ca cb : Nat) (A : OwnN b1 w a ca l) (Bq : OwnN b2 w b cb l) :
    Calls Tryz.prog 32 #[.slice a n ca, .slice b n cb] w fun e w' => e = .returned (.bool true) ∧ Below w.heap.size w w' := by
  have HA := hide (fun W (hb : Below w.heap.size w W) => A.later hb)
  have HB := hide (fun W (hb : Below w.heap.size w W) => Bq.later hb)
  have HN := hide hn
  clear A Bq hn
  go_enter Tryz.func32, Tryz.ntmps32
  go_wp2_with fail
  go_loopw [5] (fun i wr => ∃ j : Nat, j ≤ n ∧ i = .int .i64 (j : Int) ∧ Hid (Below w.heap.size w wr)) (fun i _ => n - (intOf i).toNat)
  case atStart => exact ⟨0, by omega, rfl, hide (Below.refl _ _)⟩
  case round =>
    obtain ⟨j, hj, rfl, HW⟩ := hrel
    by_cases hjn : j < n
    · have y1 : (j : Int) < (n : Int) := by omega
      have y0 : (0 : Int) ≤ (j : Int) := by omega
      have hjl : j < l.length := by rw [unhide HN]; exact hjn
      obtain ⟨g1, rfl, q1⟩ := (unhide HA wr (unhide HW)).cell j hjl
      obtain ⟨g2, rfl, q2⟩ := (unhide HB wr (unhide HW)).cell j hjl
      generalize str l[j] = s at *
      clear hjl
      go_wp2_with fail
      go_quiet (fail)
      go_wp2
      exact ⟨⟨j + 1, by omega, by go_num, hide ((unhide HW).trans ⟨rfl, rfl, rfl, Nat.le_refl _, fun _ _ => rfl⟩)⟩, by simp [intOf]; omega⟩
    · have y1 : ¬ (j : Int) < (n : Int) := by omega
      go_wp2
      go_ret
      exact ⟨rfl, unhide HW⟩
end Go.Proofs.YtagncghpfdjkmaaGreatDoor
end
/- Small aids: a remainder as a number, b[:n]. -/
section
namespace Go.Proofs.YtagncghpfdjkmaaGreatDoor
open Go.ChangeShapes Go.WideShapes Go.ChangeAt Go.RowKit
end Go.Proofs.YtagncghpfdjkmaaGreatDoor
end
/- Next and All with the length apart. -/
section
namespace Go.Proofs.YtagncghpfdjkmaaGreatDoor
open Go.ChangeShapes Go.WideShapes Go.ChangeAt Go.RowKit

theorem next_any' (a : Option Addr) (n c : Nat) (l : List Nat) (k : Nat) (kk : Int) (w : World) (hkk : kk = (k : Int)) (hn : l.length = n) (hl : l.length ≤ maxLen) (hc : l.length ≤ c) (hk : k ≤ l.length) (hb : BytesAt w a l) :
    Calls Tryz.prog 58 #[.slice a n c, .int .i64 kk] w fun e w' => Below w.heap.size w w' ∧
      ((0 < nextE l k ∧ e = .returned (.tuple #[.slice none 0 0, .int .i64 0, .int .i64 (nextE l k : Nat)])) ∨
       (nextE l k = 0 ∧ ∃ g, e = .returned (.tuple #[.slice (some ⟨g, 0, none⟩) (nextH l k).length (nextH l k).length, .int .i64 ((k + 8 + (nextH l k).length : Nat) : Int), .int .i64 0]) ∧ w.heap.size ≤ g ∧ w'.heap[g]? = some (.cells ((nextH l k).map byteV).toArray 5 (0, 0)))) := by
  subst hn; subst hkk; exact next_any a c l k w hl hc hk hb
/-- Next at a place where there is an error. -/
theorem next_err' (a : Option Addr) (n c : Nat) (l : List Nat) (k : Nat) (kk : Int) (w : World) (hkk : kk = (k : Int)) (hn : l.length = n) (hl : l.length ≤ maxLen) (hc : l.length ≤ c) (hk : k ≤ l.length) (hb : BytesAt w a l) (E : Nat) (he : nextE l k = E) (hE : 0 < E) :
    Calls Tryz.prog 58 #[.slice a n c, .int .i64 kk] w fun e w' => e = .returned (.tuple #[.slice none 0 0, .int .i64 0, .int .i64 (E : Int)]) ∧ Below w.heap.size w w' := by
  refine (next_any' a n c l k kk w hkk hn hl hc hk hb).mono ?_
  rintro e w' ⟨hbw, ⟨_, rfl⟩ | ⟨h0, _⟩⟩
  · exact ⟨by rw [he], hbw⟩
  · omega
/-- A frame that is cut short is none. -/
theorem cut_next (l : List Nat) (n : Nat) (hl : l.length ≤ 65536) (hn : n < 8 + l.length) : nextE ((frameB l).take n) 0 = 3 := by
  unfold nextE
  have hlen : ((frameB l).take n).length = n := by rw [List.length_take, frameB_length]; omega
  rw [hlen, Nat.sub_zero, List.drop_zero]
  by_cases h8 : n < 8
  · rw [if_pos h8]
  · have hd : (frameB l).drop 0 = word4 l.length ++ (word4 (fsum l.length l) ++ (l ++ [])) := by rw [List.drop_zero, List.append_nil]; rfl
    have hnum : num4 ((frameB l).take n) = l.length := by
      have e : num4 (((frameB l).take n).take 4) = num4 ((frameB l).take 4) := by rw [List.take_take, Nat.min_eq_left (by omega)]
      rw [num4_take, num4_take] at e
      rw [e]
      exact num4_word4 l.length _
    rw [if_neg h8, hnum, if_neg (by omega), if_pos (by omega)]
end Go.Proofs.YtagncghpfdjkmaaGreatDoor
end
/- Frames one behind the other, cut anywhere (plain); rows of bytes of the call's own. -/
section
namespace Go.Proofs.YtagncghpfdjkmaaGreatDoor
open Go.ChangeShapes Go.WideShapes Go.ChangeAt Go.RowKit

def cat : List (List Nat) → List Nat
  | [] => []
  | h :: r => frameB h ++ cat r
theorem nextE_nil : nextE [] 0 = 3 := by decide
/-- Where frames are cut: whole ones, and a piece that is none. -/
theorem cut_at : ∀ (hs : List (List Nat)) (N : Nat), (∀ h ∈ hs, h.length ≤ 65536) → N ≤ (cat hs).length → ∃ m t, m ≤ hs.length ∧ (cat hs).take N = cat (hs.take m) ++ t ∧ nextE t 0 = 3 ∧ (∀ k, k < m → (cat (hs.take (k + 1))).length ≤ N) ∧ (m < hs.length → N < (cat (hs.take (m + 1))).length)
  | [], N, _, hN => by
    have : N = 0 := by simpa [cat] using hN
    subst this
    exact ⟨0, [], Nat.le_refl _, by simp [cat], nextE_nil, fun k hk => by omega, fun h => by simp at h⟩
  | h :: r, N, hl, hN => by
    have hh := hl h (by simp)
    have hF := frameB_length h
    by_cases hc : N < 8 + h.length
    · refine ⟨0, (frameB h).take N, Nat.zero_le _, ?_, cut_next h N hh hc, fun k hk => by omega, fun _ => ?_⟩
      · simp only [cat, List.take_zero, List.nil_append]
        rw [List.take_append_of_le_length (by omega)]
      · simp only [cat, List.take_succ_cons, List.take_zero, List.append_nil]
        omega
    · have hN' : N - (8 + h.length) ≤ (cat r).length := by
        simp only [cat, List.length_append] at hN
        omega
      obtain ⟨m, t, h1, h2, h3, h4, h5⟩ := cut_at r (N - (8 + h.length)) (fun x hx => hl x (by simp [hx])) hN'
      refine ⟨m + 1, t, by simpa using h1, ?_, h3, fun k hk => ?_, fun hm => ?_⟩
      · simp only [cat, List.take_succ_cons, List.append_assoc]
        rw [← h2, List.take_append, List.take_of_length_le (by omega), hF]
      · cases k with
        | zero => simp only [cat, List.take_succ_cons, List.take_zero, List.append_nil]; omega
        | succ k =>
          have := h4 k (by omega)
          simp only [cat, List.take_succ_cons, List.length_append]
          omega
      · have := h5 (by simpa using hm)
        simp only [cat, List.take_succ_cons, List.length_append]
        omega
theorem OwnS.at {base : Nat} {w : World} {sp : Option Addr} {n c : Nat} {hs : List (List Nat)} (h : OwnS base w (.slice sp n c) hs) (i : Nat) (hi : i < hs.length) : ∃ g p pc, sp = some ⟨g, 0, none⟩ ∧ w.cell? ⟨g, i, none⟩ = some (.slice p (hs.getD i []).length pc) ∧ OwnB base w p pc (hs.getD i []) := by
  obtain ⟨cs, ho, hc⟩ := h.ex
  obtain ⟨p, pc, h1, h2⟩ := hc i hi
  rcases ho.2 with ⟨hv, h0⟩ | ⟨g, cap, cur, hv, _, hg, _, _, _, ht⟩
  · omega
  · simp only [Value.slice.injEq] at hv
    refine ⟨g, p, pc, hv.1, ?_, h2⟩
    rw [cell_of_row w g i cur _ _ hg]
    rw [← ht, List.getElem?_take, if_pos (by omega)] at h1
    rw [← Array.getElem?_toList]
    exact h1
end Go.Proofs.YtagncghpfdjkmaaGreatDoor
end
/- Snapshots: live. -/
section
namespace Go.Proofs.YtagncghpfdjkmaaGreatDoor
open Go.ChangeShapes Go.WideShapes Go.ChangeAt Go.RowKit
set_option linter.unusedVariables false

def L7a : Ds := (sSave 1000 (ofS 3) []).2
def L7b : Ds := (sSave 1000 (ofS 12) L7a).2
theorem save_1 : sSave 1000 (ofS 3) [] = (0, L7a) := Prod.ext live_1 rfl
theorem save_2 : sSave 1000 (ofS 12) L7a = (0, L7b) := Prod.ext live_2 rfl
theorem load_2 : ∃ t, sLoad L7b = some t ∧ t.i = 12 := by
  have h := live_4
  have e : sLoad L7b = sLoad (sSave 1000 (ofS 12) (sSave 1000 (ofS 3) []).2).2 := rfl
  cases hq : sLoad L7b with
  | none => rw [← e, hq] at h; cases h
  | some t =>
    rw [← e, hq] at h
    exact ⟨t, rfl, by simpa using h⟩
theorem ownN_one {W : World} {E : Nat} {s : Nm} (h : W.heap[E]? = some (.cells #[.string (str s)] 9 (0, 0))) : OwnN E W (some ⟨E, 0, none⟩) 1 [s] :=
  ⟨rfl, .inr ⟨E, 1, _, rfl, Nat.le_refl _, h, by simp, by simp [maxLen], rfl, rfl⟩⟩
theorem str_132 : (strOf [3, 2, 99]).toList = [3, 2, 99] := by decide +kernel
set_option maxRecDepth 20000 in
set_option maxHeartbeats 16000000 in
theorem live7_calls (w : World) (ht : Tz w) : Calls Tryz.prog 17 #[] w fun e w' => e = .returned (.bool true) ∧ Below w.heap.size w w' := by
  have kc := fun (w : World) (C : Array Value) (n c : Nat) => Lib.run_convert_bytes_const (P := Tryz.prog) w 27 5 C n c Tryz.underlying27 Tryz.underlying5
  have TT := hide ht
  have NC := hide (anew_calls w 1000)
  rw [show ((1000 : Int).toNat) = 1000 from rfl] at NC
  clear ht
  go_enter Tryz.func17, Tryz.ntmps17
  go_wp2_with fail
  go_at_call 22
  refine (unhide NC).mono ?_
  rintro e V1 ⟨d, M, rfl, h1, v1⟩
  have H1 := hide h1
  have B1 := hide v1
  have OC := hide (of_calls 3 (by omega) V1)
  clear h1 v1 NC
  go_wp2_with fail
  go_at_call 37
  refine (unhide OC).mono ?_
  rintro e V2 ⟨sh2, rfl, hs2, v2⟩
  have B2 := hide ((unhide B1).trans (v2.mono (unhide B1).size))
  have SC := hide (save_calls ((unhide H1).later v2) (by omega) ⟨w, rfl, unhide TT, unhide B2⟩ (ofS 3) sh2 hs2)
  rw [save_1] at SC
  clear v2 hs2 OC H1 B1
  go_wp2_with fail
  go_at_call 24
  refine (unhide SC).mono ?_
  rintro e V3 ⟨rfl, h3, a3⟩
  dsimp only at h3 ⊢
  rw [show ((0 : Nat) : Int) = 0 from rfl]
  have H3 := hide h3
  have B3 := hide ((unhide B2).trans a3.bel)
  have OC := hide (of_calls 12 (by omega) V3)
  clear h3 a3 SC B2
  go_wp2_with fail
  go_at_call 37
  refine (unhide OC).mono ?_
  rintro e V4 ⟨sh4, rfl, hs4, v4⟩
  have B4 := hide ((unhide B3).trans (v4.mono (unhide B3).size))
  have SC := hide (save_calls ((unhide H3).later v4) (by omega) ⟨w, rfl, unhide TT, unhide B4⟩ (ofS 12) sh4 hs4)
  rw [save_2] at SC
  clear v4 hs4 OC H3 B3
  go_wp2_with fail
  go_at_call 24
  refine (unhide SC).mono ?_
  rintro e V5 ⟨rfl, h5, a5⟩
  dsimp only at h5 ⊢
  rw [show ((0 : Nat) : Int) = 0 from rfl]
  have H5 := hide h5
  have B5 := hide ((unhide B4).trans a5.bel)
  have LC := hide (load_calls h5 ((unhide TT).later (unhide B5)))
  obtain ⟨t, ht, hti⟩ := load_2
  rw [ht] at LC
  clear h5 a5 SC B4 ht
  go_wp2_with fail
  go_at_call 30
  refine (unhide LC).mono ?_
  rintro e V6 ⟨sh6, rfl, _, v6⟩
  dsimp only [Option.getD_some, Option.isSome_some]
  unfold snRow
  rw [hti, if_pos rfl]
  have U7 := hide ((Below.refl V6.heap.size V6).alloc (Nat.le_refl _) (.cells #[.int .i64 12, .int .i64 t.t, .slice sh6.va t.v.length sh6.vc, .slice sh6.la t.l.length sh6.lc, .slice sh6.dp t.d.length sh6.dc] 29))
  have X7 := hide (heap_new V6 (.cells #[.int .i64 12, .int .i64 t.t, .slice sh6.va t.v.length sh6.vc, .slice sh6.la t.l.length sh6.lc, .slice sh6.dp t.d.length sh6.dc] 29))
  have H7 := hide (((unhide H5).later v6).later (unhide U7))
  have B7 := hide (((unhide B5).trans (v6.mono (unhide B5).size)).trans ((unhide U7).mono ((unhide B5).trans (v6.mono (unhide B5).size)).size))
  clear v6 LC H5 B5 hti
  have kc2 := kc (V6.alloc (.cells #[.int .i64 12, .int .i64 t.t, .slice sh6.va t.v.length sh6.vc, .slice sh6.la t.l.length sh6.lc, .slice sh6.dp t.d.length sh6.dc] 29)) #[.int .u8 97, .int .u8 98, .int .u8 99] 3 3
  have hz7 : (V6.alloc (.cells #[.int .i64 12, .int .i64 t.t, .slice sh6.va t.v.length sh6.vc, .slice sh6.la t.l.length sh6.lc, .slice sh6.dp t.d.length sh6.dc] 29)).heap.size = V6.heap.size + 1 := by simp
  have U8 := hide ((Below.refl (V6.alloc (.cells #[.int .i64 12, .int .i64 t.t, .slice sh6.va t.v.length sh6.vc, .slice sh6.la t.l.length sh6.lc, .slice sh6.dp t.d.length sh6.dc] 29)).heap.size (V6.alloc (.cells #[.int .i64 12, .int .i64 t.t, .slice sh6.va t.v.length sh6.vc, .slice sh6.la t.l.length sh6.lc, .slice sh6.dp t.d.length sh6.dc] 29))).alloc (Nat.le_refl _) (.cells #[.int .u8 97, .int .u8 98, .int .u8 99] 5 (3, 4)))
  have HB8 := hide (lit_bytes (V6.alloc (.cells #[.int .i64 12, .int .i64 t.t, .slice sh6.va t.v.length sh6.vc, .slice sh6.la t.l.length sh6.lc, .slice sh6.dp t.d.length sh6.dc] 29)) [97, 98, 99] (3, 4) (by decide))
  rw [hz7] at kc2 HB8
  rw [show ((#[.int .u8 97, .int .u8 98, .int .u8 99] : Array Value).size, (#[.int .u8 97, .int .u8 98, .int .u8 99] : Array Value).size + 1) = (3, 4) from rfl] at kc2
  have X8 := hide (later_block (unhide U8) (unhide X7))
  have H8 := hide ((unhide H7).later (unhide U8))
  have B8 := hide ((unhide B7).trans ((unhide U8).mono (unhide B7).size))
  have PC := hide (pieces_calls (some ⟨V6.heap.size + 1, 0, none⟩) 3 3 [97, 98, 99] 2 ((V6.alloc (.cells #[.int .i64 12, .int .i64 t.t, .slice sh6.va t.v.length sh6.vc, .slice sh6.la t.l.length sh6.lc, .slice sh6.dp t.d.length sh6.dc] 29)).alloc (.cells #[.int .u8 97, .int .u8 98, .int .u8 99] 5 (3, 4))) rfl (Nat.le_refl _) (by omega) (unhide HB8) (fun e => by cases e) (by omega))
  clear kc hz7 U7 U8 X7 H7 B7 HB8
  go_wp2_with fail
  generalize (V6.alloc (.cells #[.int .i64 12, .int .i64 t.t, .slice sh6.va t.v.length sh6.vc, .slice sh6.la t.l.length sh6.lc, .slice sh6.dp t.d.length sh6.dc] 29)).alloc (.cells #[.int .u8 97, .int .u8 98, .int .u8 99] 5 (3, 4)) = W8 at *
  generalize V6.heap.size = E at *
  clear kc2
  go_at_call 40
  refine (unhide PC).mono ?_
  rintro e V9 ⟨v9, hcase⟩
  rcases hcase with ⟨h0, _⟩ | ⟨_, h0, _⟩ | ⟨_, _, vv, rfl, hos⟩
  · exact absurd h0 (by decide)
  · exact absurd h0 (by decide)
  rw [show piecesL [97, 98, 99] (2 : Int).toNat = [[3, 0, 97, 98], [3, 2, 99]] from live_5] at hos
  obtain ⟨sp9, c9, rfl⟩ := hos.form
  rw [show ([[3, 0, 97, 98], [3, 2, 99]] : List (List Nat)).length = 2 from rfl] at hos ⊢
  have OS9 := hide hos
  have H9 := hide ((unhide H8).later v9)
  have X9 := hide (later_block v9 (unhide X8))
  have B9 := hide ((unhide B8).trans (v9.mono (unhide B8).size))
  have NM := hide (anames_calls (unhide H9))
  have x0 := box_cell (unhide X9) 0 _ rfl
  clear v9 PC hos H8 X8 B8
  go_wp2_with fail
  clear x0
  go_at_call 33
  refine (unhide NM).mono ?_
  rintro e V10 ⟨np, nn, nc, rfl, hnn, hno, v10⟩
  rw [show L7b.map (·.1) = [snNm 12] from live_3] at hno
  obtain rfl : nn = 1 := by
    rw [← hnn]
    have := congrArg List.length (show L7b.map (·.1) = [snNm 12] from live_3)
    simpa using this
  have U11 := hide ((Below.refl V10.heap.size V10).alloc (Nat.le_refl _) (.cells #[.string ⟨#[115, 110, 97, 112, 45, 49, 50]⟩] 9))
  have X11 := hide (heap_new V10 (.cells #[.string ⟨#[115, 110, 97, 112, 45, 49, 50]⟩] 9))
  have ST := hide (sameTexts_yes _ _ (V10.alloc (.cells #[.string ⟨#[115, 110, 97, 112, 45, 49, 50]⟩] 9)) [snNm 12] 1 rfl (by omega) np (some ⟨V10.heap.size, 0, none⟩) nc 1 (hno.later (unhide U11)) (ownN_one (by rw [show str (snNm 12) = ⟨#[115, 110, 97, 112, 45, 49, 50]⟩ from by kernel_rfl]; exact unhide X11)))
  have B11 := hide (((unhide B9).trans (v10.mono (unhide B9).size)).trans ((unhide U11).mono ((unhide B9).trans (v10.mono (unhide B9).size)).size))
  have OS11 := hide (((unhide OS9).later v10).later (unhide U11))
  clear v10 hno hnn NM U11 X11 OS9 B9
  go_wp2_with fail
  generalize V10.alloc _ = W11 at *
  generalize V10.heap.size = E11 at *
  go_at_call 32
  refine (unhide ST).mono ?_
  rintro e V12 ⟨rfl, v12⟩
  have B12 := hide ((unhide B11).trans (v12.mono (unhide B11).size))
  have OS12 := hide ((unhide OS11).later v12)
  obtain ⟨g, p, pc, rfl, hc1, hob⟩ := (unhide OS12).at 1 (by decide)
  have c1 : V12.cell? ⟨g, 1, none⟩ = some (.slice p 3 pc) := hc1
  have hcv : (convert 27 9 (.slice p 3 pc)).run Tryz.prog V12 = .ok (.string (strOf [3, 2, 99])) V12 := run_string8 3 pc rfl hob.bytes
  have hst : ((strOf [3, 2, 99]).toList == [3, 2, 99]) = true := by rw [str_132]; rfl
  have HST := hide hst
  clear hc1 hob v12 ST
  go_wp2
  first | rw [unhide HST] | skip
  go_ret
  exact ⟨by first | rfl | (rw [unhide HST]; rfl), unhide B12⟩
end Go.Proofs.YtagncghpfdjkmaaGreatDoor
end
/- A snapshot that came in, opened. -/
section
namespace Go.Proofs.YtagncghpfdjkmaaGreatDoor
open Go.ChangeShapes Go.WideShapes Go.ChangeAt Go.RowKit
set_option linter.unusedVariables false

end Go.Proofs.YtagncghpfdjkmaaGreatDoor
end
