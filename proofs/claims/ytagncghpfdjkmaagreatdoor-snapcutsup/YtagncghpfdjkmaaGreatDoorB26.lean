/- Snapshots: the document's Put. -/
import Derived.Test.YtagncghpfdjkmaaGreatDoorB16
import Derived.Test.YtagncghpfdjkmaaGreatDoorB11
import Derived.Test.YtagncghpfdjkmaaGreatDoorB25
section
namespace Go.Proofs.YtagncghpfdjkmaaGreatDoor
open Go.ChangeShapes Go.WideShapes Go.ChangeAt Go.RowKit
set_option linter.unusedVariables false

section
variable {w : World} {sp : Option Addr} {c : Nat} {b : List Nat}
set_option maxHeartbeats 2000000 in
theorem sradd_calls (base n0 k : Nat) (hn0 : b.length = n0) (hown : OwnB base w sp c b) (hb : b.length ≤ 100000) (hk : k ≤ 1099511627776) (hbase : base ≤ w.heap.size) :
    Calls Tryz.prog 56 #[.slice sp n0 c, .int .i64 (k : Int)] w fun e w' => ∃ sp' n' c', e = .returned (.slice sp' n' c') ∧ Hid ((b ++ numB k).length = n') ∧ OwnB base w' sp' c' (b ++ numB k) ∧ Below base w w' := by
  have H := hide hown
  have N0 := hide hn0
  have HB := hide hb
  have SX := hide (numB_six k hk)
  clear hown hn0 hb
  go_enter Tryz.func56, Tryz.ntmps56
  go_wp2_with fail
  refine (refNumber_yes k w hk).mono ?_
  rintro e w1 ⟨xp, m, xc, rfl, hm, hx, b1⟩
  have O1 := hide ((unhide H).later b1)
  have X1 := hide hx
  have B1 := hide b1
  have HM := hide (unhide hm)
  clear hx b1
  go_wp2_with (at_builtin; refine wpList_append8 rfl (.tmp 12) (.tmp 13) rfl base sp n0 c b rfl (unhide N0) (by exact unhide O1) xp m xc rfl (numB k) (unhide HM) (by exact (unhide X1).bytes) (by exact (unhide X1).nil0) (by have := unhide HB; have h2 := unhide HM; have h3 := unhide SX; omega) (by exact Nat.le_trans hbase (unhide B1).size) ?_; intro sp' n' c' w' hn' ho' hg' hb')
  go_ret
  exact ⟨sp', n', c', rfl, hn', ho', ((unhide B1).mono hbase).trans hb'⟩
end
/-- How the document's Put ends. -/
def PutR (s : Sn) (w : World) (e : Ending) (w' : World) : Prop := Below w.heap.size w w' ∧ ((snE s ≠ 0 ∧ e = .returned (.tuple #[.slice none 0 0, .int .i64 (snE s : Int)])) ∨
  (snE s = 0 ∧ ∃ sp n c, e = .returned (.tuple #[.slice sp n c, .int .i64 0]) ∧ (snB s).length = n ∧ OwnB w.heap.size w' sp c (snB s)))
end Go.Proofs.YtagncghpfdjkmaaGreatDoor
end
/- Snapshots: the document's Pieces (written by wip/mksre.py). -/
section
namespace Go.Proofs.YtagncghpfdjkmaaGreatDoor
open Go.ChangeShapes Go.WideShapes Go.ChangeAt Go.RowKit
set_option linter.unusedVariables false

theorem OwnS.empty (w : World) (base : Nat) (hb : base ≤ w.heap.size) : OwnS base (w.alloc (.cells #[] 27)) (.slice (some ⟨w.heap.size, 0, none⟩) 0 0) [] :=
  ⟨⟨[], ⟨rfl, .inr ⟨w.heap.size, 0, #[], rfl, hb, heap_new w _, Nat.le_refl _, by simp [maxLen], rfl, rfl⟩⟩, by simp⟩, by simp⟩
set_option maxRecDepth 20000 in
set_option maxHeartbeats 16000000 in
theorem rpieces_calls (a : Option Addr) (n c : Nat) (l : List Nat) (z : Int) (w : World) (hn : l.length = n) (hc : n ≤ c) (hcm : c ≤ 140737488355328) (hb : BytesAt w a l) (hz : a = none → c = 0) (hzb : z ≤ 9223372036854775807) :
    Calls Tryz.prog 41 #[.slice a n c, .int .i64 z] w (PcEnd l z w) := by
  by_cases h1 : z < 1
  · have FF := hide (show PcEnd l z w (.returned (.tuple #[.slice none 0 0, .int .i64 2])) w from ⟨Below.refl _ _, .inl ⟨h1, rfl⟩⟩)
    clear hb hn
    go_enter Tryz.func41, Tryz.ntmps41
    go_wp2
    go_ret2
    exact unhide FF
  by_cases h2 : 32768 < n
  · have h2' : (32768 : Int) < (n : Int) := by omega
    have FF := hide (show PcEnd l z w (.returned (.tuple #[.slice none 0 0, .int .i64 6])) w from ⟨Below.refl _ _, .inr (.inl ⟨by omega, by omega, rfl⟩)⟩)
    clear hb hn
    go_enter Tryz.func41, Tryz.ntmps41
    go_wp2
    go_ret2
    exact unhide FF
  have h2' : ¬ (32768 : Int) < (n : Int) := by omega
  obtain ⟨sz, rfl⟩ : ∃ k : Nat, z = (k : Int) := ⟨z.toNat, by omega⟩
  have hsz : 1 ≤ sz := by omega
  have HB := hide hb
  have HN := hide hn
  have HZ := hide hz
  have FE := hide (show ∀ v V, OwnS w.heap.size V v (piecesL l sz) → Below w.heap.size w V → PcEnd l (sz : Int) w (.returned (.tuple #[v, .int .i64 0])) V from fun v V ho u => ⟨u, .inr (.inr ⟨by omega, by omega, v, rfl, by rw [Int.toNat_natCast]; exact ho⟩)⟩)
  have h1' : ¬ (sz : Int) < 1 := by omega
  have O0 := hide (OwnS.empty w w.heap.size (Nat.le_refl _))
  have B0 := hide (show Below w.heap.size w (w.alloc (.cells #[] 27)) from (Below.refl _ _).alloc (Nat.le_refl _) _)
  clear hb hn hz
  go_enter Tryz.func41, Tryz.ntmps41
  go_wp2_with fail
  generalize w.alloc _ = w1 at *
  go_loopw [6, 7] (fun v q wr => ∃ (k f : Nat) (rows : List (List Nat)) (sp : Option Addr) (m cc : Nat), k ≤ n ∧ q = .int .i64 (k : Int) ∧ v = .slice sp m cc ∧ Hid (rows.length = m) ∧ m ≤ k + 1 ∧ Hid (OwnS w.heap.size wr (.slice sp m cc) rows) ∧ Hid (rows ++ pcs l sz f (decide (k = 0)) k = piecesL l sz) ∧ n + 1 ≤ f + k ∧ Hid (Below w.heap.size w wr)) (fun v q _ => n - (intOf q).toNat)
  case atStart => exact ⟨0, n + 1, [], some ⟨w.heap.size, 0, none⟩, 0, 0, by omega, rfl, rfl, hide rfl, by omega, O0, hide (by rw [← unhide HN]; rfl), by omega, B0⟩
  case round =>
    obtain ⟨k, f, rows, sp, m, cc, hk, rfl, rfl, HM, hmk, OS, PQ, hf, F⟩ := hrel
    rcases Nat.eq_zero_or_pos k with hk0 | hk0
    · subst hk0
      rw [show ((0 : Nat) : Int) = 0 from rfl]
      by_cases hbig : sz < n
      · as_aux_lemma =>
        have hb1 : (sz : Int) < (n : Int) := by omega
        obtain ⟨ad, rfl⟩ : ∃ ad, a = some ad := by
          cases a with
          | none => have := unhide HZ rfl; omega
          | some ad => exact ⟨ad, rfl⟩
        obtain ⟨f', rfl⟩ : ∃ f', f = f' + 1 := ⟨f - 1, by omega⟩
        obtain ⟨kl, hkl⟩ : ∃ kl, sz = kl := ⟨_, rfl⟩
        have KLE := hide (show kl = min sz (n - 0) by omega)
        have PQ' := hide (show (rows ++ [pieceB l sz 0]) ++ pcs l sz f' (decide (kl = 0)) (kl) = piecesL l sz from by
          rw [← unhide PQ, pcs_go (b := decide (0 = 0)) (.inr (by simp)), unhide HN, List.append_assoc]
          have e0 : decide (kl = 0) = false := decide_eq_false (by have := unhide KLE; omega)
          rw [e0, unhide KLE]
          simp)
        have hkle : kl ≤ n := by have := unhide KLE; omega
        have hlk : True := trivial
        have hdrop : True := trivial
        have HPB := hide (show BytesAt wr (some ad) (l.take kl) from ((unhide HB).later (unhide F)).take kl)
        have HPZ := hide (show (some ad) = none → c = 0 from unhide HZ)
        have HPL := hide (show (l.take kl).length = kl by rw [List.length_take, unhide HN]; omega)
        have HPE := hide (show l.take kl = (l.drop 0).take sz by
          rw [List.drop_zero]
          rw [hkl])
        have AB := hide (show Below wr.heap.size wr (wr.alloc (.cells #[] 5)) from (Below.refl _ _).alloc (Nat.le_refl _) _)
        have A1 := hide (sradd_calls (w := wr.alloc (.cells #[] 5)) wr.heap.size 0 n rfl (OwnB.empty wr wr.heap.size (Nat.le_refl _)) (by simp) (by omega) (unhide AB).size)
        have HKL := hide hkl
        clear hkl hlk hdrop
        obtain rfl : sz = kl := unhide HKL
        have n0 : ¬ ((sz : Nat) : Int) = 0 := by omega
        have n1 : ((sz : Int) == 0) = false := by simpa using n0
        go_wp2_with fail
        generalize wr.alloc _ = V0 at *
        generalize hE0 : wr.heap.size = E0 at *
        go_at_call 56
        refine (unhide A1).mono ?_
        rintro e V1 ⟨sp1, n1', c1, rfl, hn1, ho1, v1⟩
        have U1 := hide ((unhide AB).trans v1)
        have A2 := hide (sradd_calls (w := V1) E0 n1' 0 (unhide hn1) ho1 (by have := numB_six n (by omega); simp; omega) (by omega) (by have := (unhide U1).size; omega))
        rw [show ((0 : Nat) : Int) = 0 from rfl] at A2
        clear v1 hn1 ho1 A1 AB
        go_wp2_with fail
        go_at_call 56
        refine (unhide A2).mono ?_
        rintro e V2 ⟨sp2, n2, c2, rfl, hn2, ho2, v2⟩
        have U2 := hide ((unhide U1).trans v2)
        have O2 := hide ho2
        have N2 := hide (unhide hn2)
        have UW := hide (show Below wr.heap.size wr V2 by rw [hE0]; exact unhide U2)
        have L2 := hide (show ([] ++ numB n ++ numB 0).length ≤ 12 by have h1 := numB_six n (by omega); have h2 := numB_six 0 (by omega); simp only [List.length_append, List.length_nil]; omega)
        have HB2 := hide ((unhide HPB).later (unhide UW))
        have F2 := hide ((unhide F).trans ((unhide UW).mono (unhide F).size))
        have FS := hide (show w.heap.size ≤ E0 by rw [← hE0]; exact (unhide F).size)
        clear v2 hn2 ho2 A2
        go_wp2_with (first
          | (have hV : O2 = O2 := rfl; clear hV
             at_builtin
             refine wpList_append8 rfl (.tmp 39) (.tmp 45) rfl E0 sp2 n2 c2 ([] ++ numB n ++ numB 0) rfl (unhide N2) (by exact unhide O2) (some ad) sz c rfl (l.take sz) (unhide HPL) (by exact unhide HB2) (unhide HPZ) (by have := unhide L2; omega) (by have := (unhide U2).size; omega) ?_
             intro sp3 n3 c3 V3 hn3 ho3 hg3 hb3
             have EQ3 : [] ++ numB n ++ numB 0 ++ l.take sz = pieceB l sz 0 := by (try rw [unhide HPE]); unfold pieceB; rw [unhide HN]; simp only [List.nil_append, List.append_assoc]
             rw [EQ3] at hn3 ho3
             have O3 := hide (ho3.mono (unhide FS))
             have N3 := hide (unhide hn3)
             have U3 := hide (show Below wr.heap.size wr V3 by rw [hE0]; exact (unhide U2).trans hb3)
             have F3 := hide ((unhide F).trans ((unhide U3).mono (unhide F).size))
             have OS3 := hide ((unhide OS).later (unhide U3))
             have UB := hide ((Below.refl V3.heap.size V3).alloc (Nat.le_refl _) (.cells #[.slice sp3 n3 c3] 27))
             have XB := hide (heap_new V3 (.cells #[.slice sp3 n3 c3] 27))
             have O4 := hide ((unhide O3).later (unhide UB))
             have OS4 := hide ((unhide OS3).later (unhide UB))
             have F4 := hide ((unhide F3).trans ((unhide UB).mono (unhide F3).size))
             clear ho3 hg3 hb3 EQ3 hn3 O2)
          | (have hV : OS4 = OS4 := rfl; clear hV
             at_builtin
             refine wpList_appendS rfl (.tmp 38) (.tmp 47) rfl w.heap.size (.slice sp m cc) rows rfl (by exact unhide OS4) V3.heap.size rfl sp3 c3 (pieceB l sz 0) (by rw [unhide N3]; exact box_cell (unhide XB) 0 _ rfl) (by exact unhide O4) (by rw [unhide HM]; omega) (by exact (unhide F4).size) ?_
             intro v5 V5 ho5 hb5
             obtain ⟨sp5, c5, rfl⟩ := ho5.form
             have F5 := hide ((unhide F4).trans hb5)
             have LEN := hide (show (rows ++ [pieceB l sz 0]).length = m + 1 by rw [List.length_append, unhide HM]; rfl)
             rw [unhide LEN] at ho5 ⊢
             have OS5 := hide ho5
             clear ho5 hb5 OS4))
        exact ⟨⟨sz, f', rows ++ [pieceB l sz 0], sp5, m + 1, c5, by omega, rfl, rfl, LEN, by omega, OS5, PQ', by omega, F5⟩, by simp [intOf]; omega⟩
      · rcases Nat.eq_zero_or_pos n with hn0 | hn0
        · as_aux_lemma =>
          subst hn0
          obtain ⟨f', rfl⟩ : ∃ f', f = f' + 1 := ⟨f - 1, by omega⟩
          have PE := hide (show rows ++ [pieceB l sz 0] = piecesL l sz by rw [← unhide PQ, pcs_go (b := decide ((0 : Nat) = 0)) (.inr (by simp)), pcs_end (by rw [unhide HN]; omega)])
          have LN := hide (show l = [] from List.length_eq_zero_iff.1 (unhide HN))
          cases a with
          | none =>
            obtain rfl : c = 0 := unhide HZ rfl
            have AB := hide (show Below wr.heap.size wr (wr.alloc (.cells #[] 5)) from (Below.refl _ _).alloc (Nat.le_refl _) _)
            have A1 := hide (sradd_calls (w := wr.alloc (.cells #[] 5)) wr.heap.size 0 0 rfl (OwnB.empty wr wr.heap.size (Nat.le_refl _)) (by simp) (by omega) (unhide AB).size)
            rw [show ((0 : Nat) : Int) = 0 from rfl] at A1
            go_wp2_with fail
            generalize wr.alloc _ = V0 at *
            generalize hE0 : wr.heap.size = E0 at *
            go_at_call 56
            refine (unhide A1).mono ?_
            rintro e V1 ⟨sp1, n1', c1, rfl, hn1, ho1, v1⟩
            have U1 := hide ((unhide AB).trans v1)
            have A2 := hide (sradd_calls (w := V1) E0 n1' 0 (unhide hn1) ho1 (by have := numB_six 0 (by omega); simp; omega) (by omega) (by have := (unhide U1).size; omega))
            rw [show ((0 : Nat) : Int) = 0 from rfl] at A2
            clear v1 hn1 ho1 A1 AB
            go_wp2_with fail
            go_at_call 56
            refine (unhide A2).mono ?_
            rintro e V2 ⟨sp2, n2, c2, rfl, hn2, ho2, v2⟩
            have U2 := hide ((unhide U1).trans v2)
            have O2 := hide ho2
            have N2 := hide (unhide hn2)
            have UW := hide (show Below wr.heap.size wr V2 by rw [hE0]; exact unhide U2)
            have L2 := hide (show ([] ++ numB 0 ++ numB 0).length ≤ 12 by have h1 := numB_six 0 (by omega); simp only [List.length_append, List.length_nil]; omega)
            have FS := hide (show w.heap.size ≤ E0 by rw [← hE0]; exact (unhide F).size)
            clear v2 hn2 ho2 A2
            go_wp2_with (first
              | (have hV : O2 = O2 := rfl; clear hV
                 at_builtin
                 refine wpList_append8 rfl (.tmp 39) (.tmp 45) rfl E0 sp2 n2 c2 ([] ++ numB 0 ++ numB 0) rfl (unhide N2) (by exact unhide O2) none 0 0 rfl [] rfl (by exact ⟨by simp, fun i hi => by cases hi⟩) (fun _ => rfl) (by have := unhide L2; omega) (by have := (unhide U2).size; omega) ?_
                 intro sp3 n3 c3 V3 hn3 ho3 hg3 hb3
                 have EQ3 : [] ++ numB 0 ++ numB 0 ++ [] = pieceB l sz 0 := by rw [unhide LN]; simp [pieceB]
                 rw [EQ3] at hn3 ho3
                 have O3 := hide (ho3.mono (unhide FS))
                 have N3 := hide (unhide hn3)
                 have U3 := hide (show Below wr.heap.size wr V3 by rw [hE0]; exact (unhide U2).trans hb3)
                 have F3 := hide ((unhide F).trans ((unhide U3).mono (unhide F).size))
                 have OS3 := hide ((unhide OS).later (unhide U3))
                 have UB := hide ((Below.refl V3.heap.size V3).alloc (Nat.le_refl _) (.cells #[.slice sp3 n3 c3] 27))
                 have XB := hide (heap_new V3 (.cells #[.slice sp3 n3 c3] 27))
                 have O4 := hide ((unhide O3).later (unhide UB))
                 have OS4 := hide ((unhide OS3).later (unhide UB))
                 have F4 := hide ((unhide F3).trans ((unhide UB).mono (unhide F3).size))
                 clear ho3 hg3 hb3 EQ3 hn3 O2)
              | (have hV : OS4 = OS4 := rfl; clear hV
                 at_builtin
                 refine wpList_appendS rfl (.tmp 38) (.tmp 47) rfl w.heap.size (.slice sp m cc) rows rfl (by exact unhide OS4) V3.heap.size rfl sp3 c3 (pieceB l sz 0) (by rw [unhide N3]; exact box_cell (unhide XB) 0 _ rfl) (by exact unhide O4) (by rw [unhide HM]; omega) (by exact (unhide F4).size) ?_
                 intro v5 V5 ho5 hb5
                 obtain ⟨sp5, c5, rfl⟩ := ho5.form
                 have F5 := hide ((unhide F4).trans hb5)
                 have LEN := hide (show (rows ++ [pieceB l sz 0]).length = m + 1 by rw [List.length_append, unhide HM]; rfl)
                 rw [unhide LEN] at ho5 ⊢
                 have OS5 := hide ho5
                 clear ho5 hb5 OS4))
            have FF := hide (unhide FE (.slice sp5 (m + 1) c5) _ (by rw [← unhide PE]; exact unhide OS5) (unhide F5))
            go_ret2
            exact unhide FF
          | some ad =>
            have AB := hide (show Below wr.heap.size wr (wr.alloc (.cells #[] 5)) from (Below.refl _ _).alloc (Nat.le_refl _) _)
            have A1 := hide (sradd_calls (w := wr.alloc (.cells #[] 5)) wr.heap.size 0 0 rfl (OwnB.empty wr wr.heap.size (Nat.le_refl _)) (by simp) (by omega) (unhide AB).size)
            rw [show ((0 : Nat) : Int) = 0 from rfl] at A1
            go_wp2_with fail
            generalize wr.alloc _ = V0 at *
            generalize hE0 : wr.heap.size = E0 at *
            go_at_call 56
            refine (unhide A1).mono ?_
            rintro e V1 ⟨sp1, n1', c1, rfl, hn1, ho1, v1⟩
            have U1 := hide ((unhide AB).trans v1)
            have A2 := hide (sradd_calls (w := V1) E0 n1' 0 (unhide hn1) ho1 (by have := numB_six 0 (by omega); simp; omega) (by omega) (by have := (unhide U1).size; omega))
            rw [show ((0 : Nat) : Int) = 0 from rfl] at A2
            clear v1 hn1 ho1 A1 AB
            go_wp2_with fail
            go_at_call 56
            refine (unhide A2).mono ?_
            rintro e V2 ⟨sp2, n2, c2, rfl, hn2, ho2, v2⟩
            have U2 := hide ((unhide U1).trans v2)
            have O2 := hide ho2
            have N2 := hide (unhide hn2)
            have UW := hide (show Below wr.heap.size wr V2 by rw [hE0]; exact unhide U2)
            have L2 := hide (show ([] ++ numB 0 ++ numB 0).length ≤ 12 by have h1 := numB_six 0 (by omega); simp only [List.length_append, List.length_nil]; omega)
            have FS := hide (show w.heap.size ≤ E0 by rw [← hE0]; exact (unhide F).size)
            clear v2 hn2 ho2 A2
            go_wp2_with (first
              | (have hV : O2 = O2 := rfl; clear hV
                 at_builtin
                 refine wpList_append8 rfl (.tmp 39) (.tmp 45) rfl E0 sp2 n2 c2 ([] ++ numB 0 ++ numB 0) rfl (unhide N2) (by exact unhide O2) (some ad) 0 c rfl [] rfl (by exact ⟨by simp, fun i hi => by cases hi⟩) (fun h => by cases h) (by have := unhide L2; omega) (by have := (unhide U2).size; omega) ?_
                 intro sp3 n3 c3 V3 hn3 ho3 hg3 hb3
                 have EQ3 : [] ++ numB 0 ++ numB 0 ++ [] = pieceB l sz 0 := by rw [unhide LN]; simp [pieceB]
                 rw [EQ3] at hn3 ho3
                 have O3 := hide (ho3.mono (unhide FS))
                 have N3 := hide (unhide hn3)
                 have U3 := hide (show Below wr.heap.size wr V3 by rw [hE0]; exact (unhide U2).trans hb3)
                 have F3 := hide ((unhide F).trans ((unhide U3).mono (unhide F).size))
                 have OS3 := hide ((unhide OS).later (unhide U3))
                 have UB := hide ((Below.refl V3.heap.size V3).alloc (Nat.le_refl _) (.cells #[.slice sp3 n3 c3] 27))
                 have XB := hide (heap_new V3 (.cells #[.slice sp3 n3 c3] 27))
                 have O4 := hide ((unhide O3).later (unhide UB))
                 have OS4 := hide ((unhide OS3).later (unhide UB))
                 have F4 := hide ((unhide F3).trans ((unhide UB).mono (unhide F3).size))
                 clear ho3 hg3 hb3 EQ3 hn3 O2)
              | (have hV : OS4 = OS4 := rfl; clear hV
                 at_builtin
                 refine wpList_appendS rfl (.tmp 38) (.tmp 47) rfl w.heap.size (.slice sp m cc) rows rfl (by exact unhide OS4) V3.heap.size rfl sp3 c3 (pieceB l sz 0) (by rw [unhide N3]; exact box_cell (unhide XB) 0 _ rfl) (by exact unhide O4) (by rw [unhide HM]; omega) (by exact (unhide F4).size) ?_
                 intro v5 V5 ho5 hb5
                 obtain ⟨sp5, c5, rfl⟩ := ho5.form
                 have F5 := hide ((unhide F4).trans hb5)
                 have LEN := hide (show (rows ++ [pieceB l sz 0]).length = m + 1 by rw [List.length_append, unhide HM]; rfl)
                 rw [unhide LEN] at ho5 ⊢
                 have OS5 := hide ho5
                 clear ho5 hb5 OS4))
            have FF := hide (unhide FE (.slice sp5 (m + 1) c5) _ (by rw [← unhide PE]; exact unhide OS5) (unhide F5))
            go_ret2
            exact unhide FF
        · as_aux_lemma =>
          have hb1 : ¬ (sz : Int) < (n : Int) := by omega
          obtain ⟨ad, rfl⟩ : ∃ ad, a = some ad := by
            cases a with
            | none => have := unhide HZ rfl; omega
            | some ad => exact ⟨ad, rfl⟩
          obtain ⟨f', rfl⟩ : ∃ f', f = f' + 1 := ⟨f - 1, by omega⟩
          obtain ⟨kl, hkl⟩ : ∃ kl, n = kl := ⟨_, rfl⟩
          have KLE := hide (show kl = min sz (n - 0) by omega)
          have PQ' := hide (show (rows ++ [pieceB l sz 0]) ++ pcs l sz f' (decide (kl = 0)) (kl) = piecesL l sz from by
            rw [← unhide PQ, pcs_go (b := decide (0 = 0)) (.inr (by simp)), unhide HN, List.append_assoc]
            have e0 : decide (kl = 0) = false := decide_eq_false (by have := unhide KLE; omega)
            rw [e0, unhide KLE]
            simp)
          have hkle : kl ≤ n := by have := unhide KLE; omega
          have hlk : True := trivial
          have hdrop : True := trivial
          have HPB := hide (show BytesAt wr (some ad) (l.take kl) from ((unhide HB).later (unhide F)).take kl)
          have HPZ := hide (show (some ad) = none → c = 0 from unhide HZ)
          have HPL := hide (show (l.take kl).length = kl by rw [List.length_take, unhide HN]; omega)
          have HPE := hide (show l.take kl = (l.drop 0).take sz by
            rw [List.drop_zero, List.take_of_length_le (by rw [unhide HN]; omega), List.take_of_length_le (by rw [unhide HN]; omega)]
            skip)
          have AB := hide (show Below wr.heap.size wr (wr.alloc (.cells #[] 5)) from (Below.refl _ _).alloc (Nat.le_refl _) _)
          have A1 := hide (sradd_calls (w := wr.alloc (.cells #[] 5)) wr.heap.size 0 n rfl (OwnB.empty wr wr.heap.size (Nat.le_refl _)) (by simp) (by omega) (unhide AB).size)
          have HKL := hide hkl
          clear hkl hlk hdrop
          obtain rfl : n = kl := unhide HKL
          have n0 : ¬ ((n : Nat) : Int) = 0 := by omega
          have n1 : ((n : Int) == 0) = false := by simpa using n0
          go_wp2_with fail
          generalize wr.alloc _ = V0 at *
          generalize hE0 : wr.heap.size = E0 at *
          go_at_call 56
          refine (unhide A1).mono ?_
          rintro e V1 ⟨sp1, n1', c1, rfl, hn1, ho1, v1⟩
          have U1 := hide ((unhide AB).trans v1)
          have A2 := hide (sradd_calls (w := V1) E0 n1' 0 (unhide hn1) ho1 (by have := numB_six n (by omega); simp; omega) (by omega) (by have := (unhide U1).size; omega))
          rw [show ((0 : Nat) : Int) = 0 from rfl] at A2
          clear v1 hn1 ho1 A1 AB
          go_wp2_with fail
          go_at_call 56
          refine (unhide A2).mono ?_
          rintro e V2 ⟨sp2, n2, c2, rfl, hn2, ho2, v2⟩
          have U2 := hide ((unhide U1).trans v2)
          have O2 := hide ho2
          have N2 := hide (unhide hn2)
          have UW := hide (show Below wr.heap.size wr V2 by rw [hE0]; exact unhide U2)
          have L2 := hide (show ([] ++ numB n ++ numB 0).length ≤ 12 by have h1 := numB_six n (by omega); have h2 := numB_six 0 (by omega); simp only [List.length_append, List.length_nil]; omega)
          have HB2 := hide ((unhide HPB).later (unhide UW))
          have F2 := hide ((unhide F).trans ((unhide UW).mono (unhide F).size))
          have FS := hide (show w.heap.size ≤ E0 by rw [← hE0]; exact (unhide F).size)
          clear v2 hn2 ho2 A2
          go_wp2_with (first
            | (have hV : O2 = O2 := rfl; clear hV
               at_builtin
               refine wpList_append8 rfl (.tmp 39) (.tmp 45) rfl E0 sp2 n2 c2 ([] ++ numB n ++ numB 0) rfl (unhide N2) (by exact unhide O2) (some ad) n c rfl (l.take n) (unhide HPL) (by exact unhide HB2) (unhide HPZ) (by have := unhide L2; omega) (by have := (unhide U2).size; omega) ?_
               intro sp3 n3 c3 V3 hn3 ho3 hg3 hb3
               have EQ3 : [] ++ numB n ++ numB 0 ++ l.take n = pieceB l sz 0 := by (try rw [unhide HPE]); unfold pieceB; rw [unhide HN]; simp only [List.nil_append, List.append_assoc]
               rw [EQ3] at hn3 ho3
               have O3 := hide (ho3.mono (unhide FS))
               have N3 := hide (unhide hn3)
               have U3 := hide (show Below wr.heap.size wr V3 by rw [hE0]; exact (unhide U2).trans hb3)
               have F3 := hide ((unhide F).trans ((unhide U3).mono (unhide F).size))
               have OS3 := hide ((unhide OS).later (unhide U3))
               have UB := hide ((Below.refl V3.heap.size V3).alloc (Nat.le_refl _) (.cells #[.slice sp3 n3 c3] 27))
               have XB := hide (heap_new V3 (.cells #[.slice sp3 n3 c3] 27))
               have O4 := hide ((unhide O3).later (unhide UB))
               have OS4 := hide ((unhide OS3).later (unhide UB))
               have F4 := hide ((unhide F3).trans ((unhide UB).mono (unhide F3).size))
               clear ho3 hg3 hb3 EQ3 hn3 O2)
            | (have hV : OS4 = OS4 := rfl; clear hV
               at_builtin
               refine wpList_appendS rfl (.tmp 38) (.tmp 47) rfl w.heap.size (.slice sp m cc) rows rfl (by exact unhide OS4) V3.heap.size rfl sp3 c3 (pieceB l sz 0) (by rw [unhide N3]; exact box_cell (unhide XB) 0 _ rfl) (by exact unhide O4) (by rw [unhide HM]; omega) (by exact (unhide F4).size) ?_
               intro v5 V5 ho5 hb5
               obtain ⟨sp5, c5, rfl⟩ := ho5.form
               have F5 := hide ((unhide F4).trans hb5)
               have LEN := hide (show (rows ++ [pieceB l sz 0]).length = m + 1 by rw [List.length_append, unhide HM]; rfl)
               rw [unhide LEN] at ho5 ⊢
               have OS5 := hide ho5
               clear ho5 hb5 OS4))
          exact ⟨⟨n, f', rows ++ [pieceB l sz 0], sp5, m + 1, c5, by omega, rfl, rfl, LEN, by omega, OS5, PQ', by omega, F5⟩, by simp [intOf]; omega⟩
    · have k0 : ¬ (k : Int) = 0 := by omega
      have k1 : ((k : Int) == 0) = false := by simp; omega
      by_cases hkn0 : k < n
      · have hkn : (k : Int) < (n : Int) := by omega
        by_cases hbig : sz < n - k
        · as_aux_lemma =>
          have hb1 : (sz : Int) < (n : Int) - (k : Int) := by omega
          obtain ⟨f', rfl⟩ : ∃ f', f = f' + 1 := ⟨f - 1, by omega⟩
          obtain ⟨kl, hkl⟩ : ∃ kl, sz = kl := ⟨_, rfl⟩
          have KLE := hide (show kl = min sz (n - k) by omega)
          have PQ' := hide (show (rows ++ [pieceB l sz k]) ++ pcs l sz f' (decide (k + kl = 0)) (k + kl) = piecesL l sz from by
            rw [← unhide PQ, pcs_go (b := decide (k = 0)) (.inl (by rw [unhide HN]; exact hkn0)), unhide HN, List.append_assoc]
            have e0 : decide (k + kl = 0) = false := decide_eq_false (by have := unhide KLE; omega)
            rw [e0, unhide KLE]
            simp)
          have hkle : k + kl ≤ n := by have := unhide KLE; omega
          have hsl : ∀ u, (Instr.slice 27 (.slice a n c) (some (.int .i64 (k : Int))) (some (.int .i64 ((k : Int) + (kl : Int)))) none).run Tryz.prog u = .ok (.slice (slp a k c) (k + kl - k) (c - k)) u := fun u => by
            have := run_slice_lh8 a n c k (k + kl) (by omega) (by omega) u
            rw [Int.natCast_add] at this; exact this
          have hlk : k + kl - k = kl := by omega
          rw [hlk] at hsl
          have hdrop := ((unhide HB).later (unhide F)).drop k c (by rw [unhide HN]; exact hc)
          have HPB := hide (show BytesAt wr (slp a k c) ((l.drop k).take kl) from hdrop.take _)
          have HPZ := hide (show slp a k c = none → c - k = 0 from fun e => slp_none e (unhide HZ))
          have HPL := hide (show ((l.drop k).take kl).length = kl by rw [List.length_take, List.length_drop, unhide HN]; omega)
          have HPE := hide (show (l.drop k).take kl = (l.drop k).take sz by
            rw [hkl])
          have AB := hide (show Below wr.heap.size wr (wr.alloc (.cells #[] 5)) from (Below.refl _ _).alloc (Nat.le_refl _) _)
          have A1 := hide (sradd_calls (w := wr.alloc (.cells #[] 5)) wr.heap.size 0 n rfl (OwnB.empty wr wr.heap.size (Nat.le_refl _)) (by simp) (by omega) (unhide AB).size)
          generalize slp a k c = pa at *
          have hw2 : IntKind.i64.wrap ((k : Int) + (kl : Int)) = (k : Int) + (kl : Int) := by rw [IntKind.wrap_i64]; omega
          have HKL := hide hkl
          clear hkl hlk hdrop
          obtain rfl : sz = kl := unhide HKL
          have n0 : ¬ ((sz : Nat) : Int) = 0 := by omega
          have n1 : ((sz : Int) == 0) = false := by simpa using n0
          go_wp2_with fail
          generalize wr.alloc _ = V0 at *
          generalize hE0 : wr.heap.size = E0 at *
          go_at_call 56
          refine (unhide A1).mono ?_
          rintro e V1 ⟨sp1, n1', c1, rfl, hn1, ho1, v1⟩
          have U1 := hide ((unhide AB).trans v1)
          have A2 := hide (sradd_calls (w := V1) E0 n1' k (unhide hn1) ho1 (by have := numB_six n (by omega); simp; omega) (by omega) (by have := (unhide U1).size; omega))
          clear v1 hn1 ho1 A1 AB
          go_wp2_with fail
          go_at_call 56
          refine (unhide A2).mono ?_
          rintro e V2 ⟨sp2, n2, c2, rfl, hn2, ho2, v2⟩
          have U2 := hide ((unhide U1).trans v2)
          have O2 := hide ho2
          have N2 := hide (unhide hn2)
          have UW := hide (show Below wr.heap.size wr V2 by rw [hE0]; exact unhide U2)
          have L2 := hide (show ([] ++ numB n ++ numB k).length ≤ 12 by have h1 := numB_six n (by omega); have h2 := numB_six k (by omega); simp only [List.length_append, List.length_nil]; omega)
          have HB2 := hide ((unhide HPB).later (unhide UW))
          have F2 := hide ((unhide F).trans ((unhide UW).mono (unhide F).size))
          have FS := hide (show w.heap.size ≤ E0 by rw [← hE0]; exact (unhide F).size)
          clear v2 hn2 ho2 A2
          go_wp2_with (first
            | (have hV : O2 = O2 := rfl; clear hV
               at_builtin
               refine wpList_append8 rfl (.tmp 39) (.tmp 45) rfl E0 sp2 n2 c2 ([] ++ numB n ++ numB k) rfl (unhide N2) (by exact unhide O2) pa sz (c - k) rfl ((l.drop k).take sz) (unhide HPL) (by exact unhide HB2) (unhide HPZ) (by have := unhide L2; omega) (by have := (unhide U2).size; omega) ?_
               intro sp3 n3 c3 V3 hn3 ho3 hg3 hb3
               have EQ3 : [] ++ numB n ++ numB k ++ (l.drop k).take sz = pieceB l sz k := by (try rw [unhide HPE]); unfold pieceB; rw [unhide HN]; simp only [List.nil_append, List.append_assoc]
               rw [EQ3] at hn3 ho3
               have O3 := hide (ho3.mono (unhide FS))
               have N3 := hide (unhide hn3)
               have U3 := hide (show Below wr.heap.size wr V3 by rw [hE0]; exact (unhide U2).trans hb3)
               have F3 := hide ((unhide F).trans ((unhide U3).mono (unhide F).size))
               have OS3 := hide ((unhide OS).later (unhide U3))
               have UB := hide ((Below.refl V3.heap.size V3).alloc (Nat.le_refl _) (.cells #[.slice sp3 n3 c3] 27))
               have XB := hide (heap_new V3 (.cells #[.slice sp3 n3 c3] 27))
               have O4 := hide ((unhide O3).later (unhide UB))
               have OS4 := hide ((unhide OS3).later (unhide UB))
               have F4 := hide ((unhide F3).trans ((unhide UB).mono (unhide F3).size))
               clear ho3 hg3 hb3 EQ3 hn3 O2)
            | (have hV : OS4 = OS4 := rfl; clear hV
               at_builtin
               refine wpList_appendS rfl (.tmp 38) (.tmp 47) rfl w.heap.size (.slice sp m cc) rows rfl (by exact unhide OS4) V3.heap.size rfl sp3 c3 (pieceB l sz k) (by rw [unhide N3]; exact box_cell (unhide XB) 0 _ rfl) (by exact unhide O4) (by rw [unhide HM]; omega) (by exact (unhide F4).size) ?_
               intro v5 V5 ho5 hb5
               obtain ⟨sp5, c5, rfl⟩ := ho5.form
               have F5 := hide ((unhide F4).trans hb5)
               have LEN := hide (show (rows ++ [pieceB l sz k]).length = m + 1 by rw [List.length_append, unhide HM]; rfl)
               rw [unhide LEN] at ho5 ⊢
               have OS5 := hide ho5
               clear ho5 hb5 OS4))
          exact ⟨⟨k + sz, f', rows ++ [pieceB l sz k], sp5, m + 1, c5, by omega, by rw [Value.int.injEq]; exact ⟨rfl, by omega⟩, rfl, LEN, by omega, OS5, PQ', by omega, F5⟩, by simp [intOf]; omega⟩
        · as_aux_lemma =>
          have hb1 : ¬ (sz : Int) < (n : Int) - (k : Int) := by omega
          obtain ⟨f', rfl⟩ : ∃ f', f = f' + 1 := ⟨f - 1, by omega⟩
          obtain ⟨kl, hkl⟩ : ∃ kl, n - k = kl := ⟨_, rfl⟩
          have KLE := hide (show kl = min sz (n - k) by omega)
          have PQ' := hide (show (rows ++ [pieceB l sz k]) ++ pcs l sz f' (decide (k + kl = 0)) (k + kl) = piecesL l sz from by
            rw [← unhide PQ, pcs_go (b := decide (k = 0)) (.inl (by rw [unhide HN]; exact hkn0)), unhide HN, List.append_assoc]
            have e0 : decide (k + kl = 0) = false := decide_eq_false (by have := unhide KLE; omega)
            rw [e0, unhide KLE]
            simp)
          have hkle : k + kl ≤ n := by have := unhide KLE; omega
          have hsl : ∀ u, (Instr.slice 27 (.slice a n c) (some (.int .i64 (k : Int))) (some (.int .i64 ((k : Int) + (kl : Int)))) none).run Tryz.prog u = .ok (.slice (slp a k c) (k + kl - k) (c - k)) u := fun u => by
            have := run_slice_lh8 a n c k (k + kl) (by omega) (by omega) u
            rw [Int.natCast_add] at this; exact this
          have hlk : k + kl - k = kl := by omega
          rw [hlk] at hsl
          have hdrop := ((unhide HB).later (unhide F)).drop k c (by rw [unhide HN]; exact hc)
          have HPB := hide (show BytesAt wr (slp a k c) ((l.drop k).take kl) from hdrop.take _)
          have HPZ := hide (show slp a k c = none → c - k = 0 from fun e => slp_none e (unhide HZ))
          have HPL := hide (show ((l.drop k).take kl).length = kl by rw [List.length_take, List.length_drop, unhide HN]; omega)
          have HPE := hide (show (l.drop k).take kl = (l.drop k).take sz by
            rw [List.take_of_length_le (by rw [List.length_drop, unhide HN]; omega), List.take_of_length_le (by rw [List.length_drop, unhide HN]; omega)])
          have AB := hide (show Below wr.heap.size wr (wr.alloc (.cells #[] 5)) from (Below.refl _ _).alloc (Nat.le_refl _) _)
          have A1 := hide (sradd_calls (w := wr.alloc (.cells #[] 5)) wr.heap.size 0 n rfl (OwnB.empty wr wr.heap.size (Nat.le_refl _)) (by simp) (by omega) (unhide AB).size)
          generalize slp a k c = pa at *
          have hw2 : IntKind.i64.wrap ((k : Int) + (kl : Int)) = (k : Int) + (kl : Int) := by rw [IntKind.wrap_i64]; omega
          have hw1 : IntKind.i64.wrap ((n : Int) - (k : Int)) = (kl : Int) := by rw [IntKind.wrap_i64]; omega
          have hw1' : (n : Int) - (k : Int) = (kl : Int) := by omega
          have HKL := hide hkl
          clear hkl hlk hdrop
          have n0 : ¬ (kl : Int) = 0 := by have := unhide HKL; omega
          have n1 : ((kl : Int) == 0) = false := by simpa using n0
          go_wp2_with fail
          generalize wr.alloc _ = V0 at *
          generalize hE0 : wr.heap.size = E0 at *
          go_at_call 56
          refine (unhide A1).mono ?_
          rintro e V1 ⟨sp1, n1', c1, rfl, hn1, ho1, v1⟩
          have U1 := hide ((unhide AB).trans v1)
          have A2 := hide (sradd_calls (w := V1) E0 n1' k (unhide hn1) ho1 (by have := numB_six n (by omega); simp; omega) (by omega) (by have := (unhide U1).size; omega))
          clear v1 hn1 ho1 A1 AB
          go_wp2_with fail
          go_at_call 56
          refine (unhide A2).mono ?_
          rintro e V2 ⟨sp2, n2, c2, rfl, hn2, ho2, v2⟩
          have U2 := hide ((unhide U1).trans v2)
          have O2 := hide ho2
          have N2 := hide (unhide hn2)
          have UW := hide (show Below wr.heap.size wr V2 by rw [hE0]; exact unhide U2)
          have L2 := hide (show ([] ++ numB n ++ numB k).length ≤ 12 by have h1 := numB_six n (by omega); have h2 := numB_six k (by omega); simp only [List.length_append, List.length_nil]; omega)
          have HB2 := hide ((unhide HPB).later (unhide UW))
          have F2 := hide ((unhide F).trans ((unhide UW).mono (unhide F).size))
          have FS := hide (show w.heap.size ≤ E0 by rw [← hE0]; exact (unhide F).size)
          clear v2 hn2 ho2 A2
          go_wp2_with (first
            | (have hV : O2 = O2 := rfl; clear hV
               at_builtin
               refine wpList_append8 rfl (.tmp 39) (.tmp 45) rfl E0 sp2 n2 c2 ([] ++ numB n ++ numB k) rfl (unhide N2) (by exact unhide O2) pa kl (c - k) rfl ((l.drop k).take kl) (unhide HPL) (by exact unhide HB2) (unhide HPZ) (by have := unhide L2; omega) (by have := (unhide U2).size; omega) ?_
               intro sp3 n3 c3 V3 hn3 ho3 hg3 hb3
               have EQ3 : [] ++ numB n ++ numB k ++ (l.drop k).take kl = pieceB l sz k := by (try rw [unhide HPE]); unfold pieceB; rw [unhide HN]; simp only [List.nil_append, List.append_assoc]
               rw [EQ3] at hn3 ho3
               have O3 := hide (ho3.mono (unhide FS))
               have N3 := hide (unhide hn3)
               have U3 := hide (show Below wr.heap.size wr V3 by rw [hE0]; exact (unhide U2).trans hb3)
               have F3 := hide ((unhide F).trans ((unhide U3).mono (unhide F).size))
               have OS3 := hide ((unhide OS).later (unhide U3))
               have UB := hide ((Below.refl V3.heap.size V3).alloc (Nat.le_refl _) (.cells #[.slice sp3 n3 c3] 27))
               have XB := hide (heap_new V3 (.cells #[.slice sp3 n3 c3] 27))
               have O4 := hide ((unhide O3).later (unhide UB))
               have OS4 := hide ((unhide OS3).later (unhide UB))
               have F4 := hide ((unhide F3).trans ((unhide UB).mono (unhide F3).size))
               clear ho3 hg3 hb3 EQ3 hn3 O2)
            | (have hV : OS4 = OS4 := rfl; clear hV
               at_builtin
               refine wpList_appendS rfl (.tmp 38) (.tmp 47) rfl w.heap.size (.slice sp m cc) rows rfl (by exact unhide OS4) V3.heap.size rfl sp3 c3 (pieceB l sz k) (by rw [unhide N3]; exact box_cell (unhide XB) 0 _ rfl) (by exact unhide O4) (by rw [unhide HM]; omega) (by exact (unhide F4).size) ?_
               intro v5 V5 ho5 hb5
               obtain ⟨sp5, c5, rfl⟩ := ho5.form
               have F5 := hide ((unhide F4).trans hb5)
               have LEN := hide (show (rows ++ [pieceB l sz k]).length = m + 1 by rw [List.length_append, unhide HM]; rfl)
               rw [unhide LEN] at ho5 ⊢
               have OS5 := hide ho5
               clear ho5 hb5 OS4))
          exact ⟨⟨k + kl, f', rows ++ [pieceB l sz k], sp5, m + 1, c5, by omega, by rw [Value.int.injEq]; exact ⟨rfl, by omega⟩, rfl, LEN, by omega, OS5, PQ', by omega, F5⟩, by simp [intOf]; omega⟩
      · as_aux_lemma =>
        have hkn : ¬ (k : Int) < (n : Int) := by omega
        have PE := hide (show rows = piecesL l sz from by rw [← unhide PQ, decide_eq_false (by omega), pcs_end (by rw [unhide HN]; exact hkn0), List.append_nil])
        have FF := hide (unhide FE (.slice sp m cc) wr (by rw [← unhide PE]; exact unhide OS) (unhide F))
        clear FE
        go_wp2
        go_ret2
        exact unhide FF
end Go.Proofs.YtagncghpfdjkmaaGreatDoor
end
