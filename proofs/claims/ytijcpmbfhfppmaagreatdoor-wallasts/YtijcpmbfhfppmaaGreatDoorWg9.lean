/- Logs: removeOthers. -/
import Derived.Test.YtijcpmbfhfppmaaGreatDoorWg8
namespace Go.Proofs.YtijcpmbfhfppmaaGreatDoor
open Go.ChangeShapes Go.WideShapes Go.ChangeAt Go.RowKit
set_option linter.unusedVariables false

/-- Is a file one that an elder log left, or the spare one? -/
def othW (n : Nat) (k : Nm) : Bool := decide (k = tmpW) || (decide (0 < numW k) && decide (numW k ≠ n))
def remO (n : Nat) : List Nm → Ds → Ds
  | [], ss => ss
  | k :: r, ss => remO n r (if othW n k = true then (dRemove k ss).2 else ss)
theorem remO_snoc (n : Nat) (a : List Nm) (k : Nm) (ss : Ds) : remO n (a ++ [k]) ss = (if othW n k = true then (dRemove k (remO n a ss)).2 else remO n a ss) := by
  induction a generalizing ss with
  | nil => rfl
  | cons x a ih => exact ih _
theorem tmp_str : (⟨#[119, 97, 108, 46, 116, 109, 112]⟩ : ByteArray) = str tmpW := rfl
section
variable {Av : Nat → Prop} {base : Nat} {w w' : World} {L d M room N N' : Nat} {ss ss' : Ds} {c : Wc} {n : Nat} {ep : Option Addr} {ec : Nat} {hs : List (Option Addr × Nat)}
set_option maxRecDepth 20000 in
set_option maxHeartbeats 16000000 in
theorem removeOthers_calls (z : WAt Av base w L d M room N ss c n ep ec hs) :
    Calls Tryz.prog 62 #[.pointer (some ⟨L, 0, none⟩)] w fun e w' => e = .returned (.tuple #[]) ∧ WAt Av base w' L d M room N (remO n (ss.map (·.1)) ss) c n ep ec hs ∧ Asd Av base w w' := by
  have NC := hide (anames_calls z.dk)
  have LN := hide z.dk.len
  have NM := hide z.dk.nmlen
  have Z := hide z
  have c0 := z.ptr.1
  clear z
  go_enter Tryz.func62, Tryz.ntmps62
  go_wp2_with fail
  clear c0
  go_at_call 38
  refine (unhide NC).mono ?_
  rintro e V1 ⟨sp1, n1, k1, rfl, hn1, o1, v1⟩
  have Z1 := hide ((unhide Z).more v1)
  have A1 := hide (((unhide Z).asdB v1).sub (Bv := Av) (fun g hg => .inl hg))
  have HN := hide (show (ss.map (·.1)).length = n1 by rw [List.length_map]; exact hn1)
  have NL := hide (show ∀ s ∈ ss.map (·.1), s.length ≤ 64 from fun s hs => by
    obtain ⟨x, hx, rfl⟩ := List.mem_map.1 hs
    exact unhide NM x hx)
  have N16 := hide (show n1 ≤ 16 by rw [← hn1]; exact unhide LN)
  have OB := hide (show ∀ g, blk sp1 = some g → w.heap.size ≤ g ∧ g < V1.heap.size from fun g hg => ⟨(o1.blk_is g hg).1, (o1.blk_is g hg).2.1⟩)
  have O1 := hide o1
  clear o1 v1 hn1 NC LN NM
  obtain ⟨l, hll⟩ : ∃ l, ss.map (·.1) = l := ⟨_, rfl⟩
  rw [hll] at O1 HN NL
  have HLL := hide hll
  clear hll
  have hq := unhide N16
  go_wp2_with fail
  go_loopw [11] (fun i wr => ∃ (j : Nat), j ≤ n1 ∧ i = .int .i64 (j : Int) ∧ Hid (WAt (fun g => Av g ∨ (w.heap.size ≤ g ∧ g < V1.heap.size)) base wr L d M room N (remO n (l.take j) ss) c n ep ec hs) ∧ Hid (Asd (fun g => Av g ∨ (w.heap.size ≤ g ∧ g < V1.heap.size)) base V1 wr)) (fun i _ => n1 - (intOf i).toNat)
  case atStart => exact ⟨0, by omega, rfl, Z1, hide (Asd.refl _ _ _)⟩
  case round =>
    obtain ⟨j, hj, rfl, Z4, A4⟩ := hrel
    by_cases hjm : j < n1
    · have y0 : (0 : Int) ≤ (j : Int) := by omega
      have y1 : (j : Int) < (n1 : Int) := by omega
      have hjl : j < l.length := by rw [unhide HN]; exact hjm
      have O4 := hide ((unhide O1).same (w' := wr) (fun g hg => (unhide A4).av g (.inr (unhide OB g hg))))
      obtain ⟨g, rfl, q0⟩ := (unhide O4).cell j hjl
      have NX := unhide NL l[j] (List.getElem_mem hjl)
      have NU := hide (numberOf_calls l[j] NX wr (unhide Z4).tzw)
      have TS := hide (show remO n (l.take (j + 1)) ss = (if othW n l[j] = true then (dRemove l[j] (remO n (l.take j) ss)).2 else remO n (l.take j) ss) by rw [List.take_succ_eq_append_getElem hjl, remO_snoc])
      have EQ := str_eqN l[j] tmpW
      have SS := hide (show (str l[j]).size ≤ maxLen by rw [str_size]; simp only [maxLen]; omega)
      have RM := hide (fun (W : World) (u : Below wr.heap.size wr W) => aremove_calls ((unhide Z4).dk.later u) (str l[j]) (unhide SS))
      rw [str_list] at RM
      rw [← tmp_str, show (⟨#[119, 97, 108, 46, 116, 109, 112]⟩ : ByteArray).toList = [119, 97, 108, 46, 116, 109, 112] by rw [ByteArray.toList_eq]] at EQ
      have OT := hide (show othW n l[j] = (decide (l[j] = tmpW) || (decide (0 < numW l[j]) && decide (numW l[j] ≠ n))) from rfl)
      generalize othW n l[j] = ot at *
      generalize numW l[j] = nu at *
      generalize decide (l[j] = tmpW) = et at *
      generalize dRemove l[j] (remO n (l.take j) ss) = rm at *
      generalize str l[j] = nm at *
      clear NX hjl
      go_wp2_with fail
      clear q0
      go_at_call 96
      refine (unhide NU).mono ?_
      rintro e V4 ⟨rfl, v4⟩
      have B4 := hide v4
      have Z5 := hide ((unhide Z4).later v4)
      have A5 := hide ((unhide A4).trans (((unhide Z4).asdB v4).sub (fun g hg => .inl hg)))
      obtain ⟨c0, c6, _⟩ := (unhide Z5).ptr
      clear v4 NU
      have CA : (ot = true) ∨ (ot = false) := by cases ot <;> simp
      have R1 := hide (show ∀ W, ot = true → WAt (fun g => Av g ∨ (w.heap.size ≤ g ∧ g < V1.heap.size)) base W L d M room N rm.2 c n ep ec hs → WAt (fun g => Av g ∨ (w.heap.size ≤ g ∧ g < V1.heap.size)) base W L d M room N (remO n (l.take (j + 1)) ss) c n ep ec hs from fun W h z => by rw [unhide TS, if_pos h]; exact z)
      have R0 := hide (show ∀ W, ot = false → WAt (fun g => Av g ∨ (w.heap.size ≤ g ∧ g < V1.heap.size)) base W L d M room N (remO n (l.take j) ss) c n ep ec hs → WAt (fun g => Av g ∨ (w.heap.size ≤ g ∧ g < V1.heap.size)) base W L d M room N (remO n (l.take (j + 1)) ss) c n ep ec hs from fun W h z => by rw [unhide TS, h, if_neg (by simp)]; exact z)
      obtain ⟨er, sr⟩ := rm
      have CS : (et = true ∧ ot = true) ∨ (et = false ∧ 0 < nu ∧ nu ≠ n ∧ ot = true) ∨ (et = false ∧ nu = 0 ∧ ot = false) ∨ (et = false ∧ 0 < nu ∧ nu = n ∧ ot = false) := by
        rw [unhide OT]
        cases et with
        | true => left; simp
        | false =>
          right
          by_cases h1 : 0 < nu
          · by_cases h2 : nu = n
            · right; right; simp [h2]; omega
            · left; simp [h1, h2]
          · right; left
            have : nu = 0 := by omega
            simp [this]
      clear CA OT
      rcases CS with ⟨rfl, ho⟩ | ⟨rfl, h1, h2, ho⟩ | ⟨rfl, h1, ho⟩ | ⟨rfl, h1, h2, ho⟩
      focus
        have HO := hide ho
        have EP := eq_of_beq EQ
        clear ho
        go_wp2_with fail
        try clear EP
      rotate_left
      focus
        have HO := hide ho
        have EP := ne_of_beq_false EQ
        have k1 : (0 : Int) < (nu : Int) := by omega
        have k2 : ((nu : Int) == (n : Int)) = false := by simp; omega
        have k3 : ¬ (nu : Int) = (n : Int) := by omega
        clear ho h1 h2
        go_wp2_with fail
        clear k1 k2 k3
      rotate_left
      focus
        have Z6 := hide (unhide R0 _ ho (unhide Z5))
        have EP := ne_of_beq_false EQ
        have k1 : ¬ (0 : Int) < (nu : Int) := by omega
        clear ho h1
        go_wp2
        exact ⟨⟨j + 1, by omega, by go_num, Z6, A5⟩, by simp [intOf]; omega⟩
      focus
        have Z6 := hide (unhide R0 _ ho (unhide Z5))
        have EP := ne_of_beq_false EQ
        have k1 : (0 : Int) < (nu : Int) := by omega
        have k2 : ((nu : Int) == (n : Int)) = true := by simp; omega
        clear ho h1 h2
        go_wp2
        exact ⟨⟨j + 1, by omega, by go_num, Z6, A5⟩, by simp [intOf]; omega⟩
      all_goals
        clear c0 c6
        go_at_call 97
        refine (unhide RM _ (unhide B4)).mono ?_
        rintro e V6 ⟨rfl, dk6, as6⟩
        have Z6 := hide (unhide R1 _ (unhide HO) ((unhide Z5).disk dk6 as6))
        have A6 := hide ((unhide A5).trans (as6.sub (fun g hg => .inl hg)))
        clear dk6 as6
        go_wp2
        exact ⟨⟨j + 1, by omega, by go_num, Z6, A6⟩, by simp [intOf]; omega⟩
    · have hjj : ¬ (j : Int) < (n1 : Int) := by omega
      obtain rfl : j = n1 := by omega
      have FE := hide (show WAt Av base wr L d M room N (remO n l ss) c n ep ec hs ∧ Asd Av base w wr by
        have h := unhide Z4
        rw [List.take_of_length_le (by rw [unhide HN]; exact Nat.le_refl _)] at h
        exact ⟨h.sub (fun g hg => .inl hg), (unhide A1).trans ((unhide A4).sub (fun g hg => .inl hg))⟩)
      go_wp2
      go_end0
      exact ⟨rfl, by rw [unhide HLL]; exact (unhide FE).1, (unhide FE).2⟩
end
end Go.Proofs.YtijcpmbfhfppmaaGreatDoor
