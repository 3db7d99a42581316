/- Heads: a head's bytes (appended, Write). -/
import Derived.Test.YtmmiadlmdjfepaaDoorHds
import Derived.Test.YtmmiadlmdjfepaaDoorHdq
import Derived.Laws.Concat
namespace Go.Proofs.YtmmiadlmdjfepaaDoor
open Go.ChangeShapes Go.WideShapes Go.ChangeAt Go.RowKit
set_option linter.unusedVariables false

theorem numsB_app (a b : ByteArray) : numsB (a ++ b) = numsB a ++ numsB b := by
  unfold numsB; simp
def numsT (l : Tx) : List Nat := l.map UInt8.toNat
theorem numsB_st (l : Tx) : numsB (stS l) = numsT l := rfl
theorem numsT_app (a b : Tx) : numsT (a ++ b) = numsT a ++ numsT b := List.map_append
theorem numsT_len (l : Tx) : (numsT l).length = l.length := List.length_map _
theorem numsT_tx (l : Tx) : txN (numsT l) = l := numsB_tx (stS l)
theorem numsB_is {s : ByteArray} {l : Tx} (h : s.data.toList = l) : numsB s = numsT l := by subst h; rfl
theorem ended_take (l : List Fd) (j : Nat) (hj : j < l.length) : endedL ((l.take (j + 1)).map lineF) = endedL ((l.take j).map lineF) ++ (lineF l[j] ++ crlf) := by
  rw [List.take_add_one, List.getElem?_eq_getElem hj, Option.toList_some, List.map_append]
  simp [endedL]
/-- What lies behind the first j fields. -/
def upToL (h : Hd) (j : Nat) : Tx := line0 h ++ crlf ++ endedL ((h.fields.take j).map lineF)
theorem upTo_step (h : Hd) (j : Nat) (hj : j < h.fields.length) : upToL h (j + 1) = upToL h j ++ (lineF h.fields[j] ++ crlf) := by
  unfold upToL
  rw [ended_take _ _ hj, List.append_assoc]
  simp [List.append_assoc]
theorem upTo_end (h : Hd) (j : Nat) (hj : h.fields.length ≤ j) : upToL h j ++ crlf = writtenL h := by
  unfold upToL writtenL linesH
  rw [List.take_of_length_le hj]
  simp [endedL, List.append_assoc]
theorem upTo_le (h : Hd) (j : Nat) : (upToL h j).length ≤ (writtenL h).length := by
  have h1 : ∀ (l : List Fd) (j : Nat), (endedL ((l.take j).map lineF)).length ≤ (endedL (l.map lineF)).length := fun l j => by
    have e : endedL (l.map lineF) = endedL ((l.take j).map lineF) ++ endedL ((l.drop j).map lineF) := by
      unfold endedL
      rw [← List.flatMap_append, ← List.map_append, List.take_append_drop]
    rw [e, List.length_append]; omega
  have h2 := h1 h.fields j
  unfold upToL writtenL linesH
  simp only [endedL, List.flatMap_cons, List.length_append] at h2 ⊢
  omega
theorem len_isB (s : ByteArray) : s.data.toList.length = s.size := by simp
theorem line_text (n v : ByteArray) : (((n ++ (⟨#[58, 32]⟩ : ByteArray)) ++ v) ++ (⟨#[13, 10]⟩ : ByteArray)).data.toList = lineF ⟨n.data.toList, v.data.toList⟩ ++ crlf := by simp [lineF, crlf]
theorem first_text (m t : ByteArray) : (((((m ++ (⟨#[32]⟩ : ByteArray)) ++ t) ++ (⟨#[32]⟩ : ByteArray)) ++ (⟨#[72, 84, 84, 80, 47, 49, 46, 49]⟩ : ByteArray)) ++ (⟨#[13, 10]⟩ : ByteArray)).data.toList = m.data.toList ++ 32 :: (t.data.toList ++ 32 :: versionL) ++ crlf := by simp [versionL, crlf]
set_option maxRecDepth 20000 in
set_option maxHeartbeats 16000000 in
theorem appended_calls (h : Hd) (sp : Option Addr) (c : Nat) (w : World) (hF : FdsAt w sp h.fields) (hl : HdLe 140737488355328 h) (hW : (writtenL h).length ≤ 140737488355328) :
    Calls Tryd.prog 30 #[hdVal h sp c] w fun e w' => (∃ g k, e = .returned (.slice (some ⟨g, 0, none⟩) (writtenL h).length k) ∧ OwnZ w.heap.size w' g k (numsT (writtenL h))) ∧ Below w.heap.size w w' := by
  have HF := hide hF
  have HZ := hide hl.f.2
  have hlf := hl.f.1
  have hlm := hl.m
  have hlp := hl.p
  have hlq := hl.q
  have HW := hide hW
  have B1 := hide (show Below w.heap.size w (w.alloc (.cells #[.string (stS h.method), .string (stS h.path), .string (stS h.query), .string (stS h.host), .slice sp h.fields.length c] 25)) from (Below.refl _ _).alloc (Nat.le_refl _) _)
  have X1 := hide (heap_new w (.cells #[.string (stS h.method), .string (stS h.path), .string (stS h.query), .string (stS h.host), .slice sp h.fields.length c] 25))
  have k0 := box_cell (unhide X1) 0 _ rfl
  have k1 := box_cell (unhide X1) 1 _ rfl
  have k2 := box_cell (unhide X1) 2 _ rfl
  have k4 := box_cell (unhide X1) 4 _ rfl
  have hsz : (w.alloc (.cells #[.string (stS h.method), .string (stS h.path), .string (stS h.query), .string (stS h.host), .slice sp h.fields.length c] 25)).heap.size = w.heap.size + 1 := by simp
  have hnil : (⟨#[]⟩ : ByteArray).toList = [] := by rw [ByteArray.toList_eq]
  have hqn := str_nil (stS h.query)
  rw [stS_list] at hqn
  have U0 := hide (show (upToL h 0) = line0 h ++ crlf by unfold upToL; simp [endedL])
  have L0 := hide (show (line0 h ++ crlf).length ≤ 140737488355328 by rw [← unhide U0]; exact Nat.le_trans (upTo_le h 0) hW)
  have smz : (stS h.method).size ≤ 140737488355328 := hlm
  have spz : (stS h.path).size ≤ 140737488355328 := hlp
  have sqz : (stS h.query).size ≤ 140737488355328 := hlq
  clear hF hl hW hlm hlp hlq
  unfold hdVal
  rcases Bool.eq_false_or_eq_true h.query.isEmpty with he | he
  focus
    rw [he] at hqn
    have HT := hide (first_text (stS h.method) (stS h.path))
    have T0 := hide (show (((((stS h.method ++ (⟨#[32]⟩ : ByteArray)) ++ stS h.path) ++ (⟨#[32]⟩ : ByteArray)) ++ (⟨#[72, 84, 84, 80, 47, 49, 46, 49]⟩ : ByteArray)) ++ (⟨#[13, 10]⟩ : ByteArray)).data.toList = line0 h ++ crlf by
      rw [unhide HT, stS_list]
      unfold line0 targL
      rw [if_pos (List.isEmpty_iff.1 he), stS_list])
    obtain ⟨cc, WC, hcv, hown, hbc⟩ := conv_own (w.alloc (.cells #[.string (stS h.method), .string (stS h.path), .string (stS h.query), .string (stS h.host), .slice sp h.fields.length c] 25)) (((((stS h.method ++ (⟨#[32]⟩ : ByteArray)) ++ stS h.path) ++ (⟨#[32]⟩ : ByteArray)) ++ (⟨#[72, 84, 84, 80, 47, 49, 46, 49]⟩ : ByteArray)) ++ (⟨#[13, 10]⟩ : ByteArray)) w.heap.size (by rw [hsz]; omega) (by rw [← len_isB, unhide T0]; exact unhide L0)
    rw [hsz] at hcv hown
    have O0 := hide (show OwnZ w.heap.size WC (w.heap.size + 1) cc (numsT (upToL h 0)) by rw [unhide U0, ← numsB_is (unhide T0)]; exact hown)
    have S0 := hide (show (((((stS h.method ++ (⟨#[32]⟩ : ByteArray)) ++ stS h.path) ++ (⟨#[32]⟩ : ByteArray)) ++ (⟨#[72, 84, 84, 80, 47, 49, 46, 49]⟩ : ByteArray)) ++ (⟨#[13, 10]⟩ : ByteArray)).size = (upToL h 0).length by rw [← len_isB, unhide T0, unhide U0])
    have B2 := chain B1 hbc
    have k4b := cell_later hbc k4
    clear he hown HT T0
    go_enter Tryd.func30, Tryd.ntmps30
    go_wp2_with fail
  rotate_left
  focus
    rw [he] at hqn
    have HT := hide (first_text (stS h.method) ((stS h.path ++ ((⟨#[63]⟩ : ByteArray) ++ stS h.query))))
    have T0 := hide (show (((((stS h.method ++ (⟨#[32]⟩ : ByteArray)) ++ (stS h.path ++ ((⟨#[63]⟩ : ByteArray) ++ stS h.query))) ++ (⟨#[32]⟩ : ByteArray)) ++ (⟨#[72, 84, 84, 80, 47, 49, 46, 49]⟩ : ByteArray)) ++ (⟨#[13, 10]⟩ : ByteArray)).data.toList = line0 h ++ crlf by
      rw [unhide HT, stS_list]
      unfold line0 targL
      rw [if_neg (fun e => by rw [e] at he; cases he)]
      simp [stS])
    obtain ⟨cc, WC, hcv, hown, hbc⟩ := conv_own (w.alloc (.cells #[.string (stS h.method), .string (stS h.path), .string (stS h.query), .string (stS h.host), .slice sp h.fields.length c] 25)) (((((stS h.method ++ (⟨#[32]⟩ : ByteArray)) ++ (stS h.path ++ ((⟨#[63]⟩ : ByteArray) ++ stS h.query))) ++ (⟨#[32]⟩ : ByteArray)) ++ (⟨#[72, 84, 84, 80, 47, 49, 46, 49]⟩ : ByteArray)) ++ (⟨#[13, 10]⟩ : ByteArray)) w.heap.size (by rw [hsz]; omega) (by rw [← len_isB, unhide T0]; exact unhide L0)
    rw [hsz] at hcv hown
    have O0 := hide (show OwnZ w.heap.size WC (w.heap.size + 1) cc (numsT (upToL h 0)) by rw [unhide U0, ← numsB_is (unhide T0)]; exact hown)
    have S0 := hide (show (((((stS h.method ++ (⟨#[32]⟩ : ByteArray)) ++ (stS h.path ++ ((⟨#[63]⟩ : ByteArray) ++ stS h.query))) ++ (⟨#[32]⟩ : ByteArray)) ++ (⟨#[72, 84, 84, 80, 47, 49, 46, 49]⟩ : ByteArray)) ++ (⟨#[13, 10]⟩ : ByteArray)).size = (upToL h 0).length by rw [← len_isB, unhide T0, unhide U0])
    have B2 := chain B1 hbc
    have k4b := cell_later hbc k4
    clear he hown HT T0
    go_enter Tryd.func30, Tryd.ntmps30
    go_wp2_with fail
  all_goals
    clear k0 k1 k2 k4 k4b hcv hbc X1 B1 L0 U0
    generalize hn : h.fields.length = n at *
    have HN := hide hn
    clear hn
    go_loopw [4, 29] (fun b i wr => ∃ j g k : Nat, j ≤ n ∧ i = .int .i64 (j : Int) ∧ b = .slice (some ⟨g, 0, none⟩) (upToL h j).length k ∧ Hid (OwnZ w.heap.size wr g k (numsT (upToL h j))) ∧ Hid (Below w.heap.size w wr)) (fun _ i _ => n - (intOf i).toNat)
    case atStart => exact ⟨0, w.heap.size + 1, cc, by omega, rfl, by rw [← unhide S0]; simp only [ByteArray.size_append]; rfl, O0, B2⟩
    case round =>
      obtain ⟨j, g, k, hj, rfl, rfl, O, B⟩ := hrel
      by_cases hjn : j < n
      · have y0 : (0 : Int) ≤ (j : Int) := by omega
        have y1 : (j : Int) < (n : Int) := by omega
        have hjl : j < h.fields.length := by rw [unhide HN]; exact hjn
        obtain ⟨g1, o1, rfl, q0, q1⟩ := unhide HF j hjl
        have p0 := cell_later (unhide B) q0
        have p1 := cell_later (unhide B) q1
        have hz := unhide HZ _ (List.getElem_mem hjl)
        have HU := hide (upTo_step h j hjl)
        have HL := hide (Nat.le_trans (upTo_le h (j + 1)) (unhide HW))
        have hw : IntKind.i64.wrap ((j : Int) + 1) = ((j + 1 : Nat) : Int) := by rw [IntKind.wrap_i64]; omega
        clear q0 q1
        generalize h.fields[j] = t at *
        obtain ⟨tn, tv⟩ := t
        simp only at p0 p1 hz
        obtain ⟨hz1, hz2⟩ := hz
        rw [← stS_size] at hz1 hz2
        have HX := hide (show ((((stS tn ++ (⟨#[58, 32]⟩ : ByteArray)) ++ stS tv) ++ (⟨#[13, 10]⟩ : ByteArray)).data.toList) = lineF ⟨tn, tv⟩ ++ crlf from line_text (stS tn) (stS tv))
        have e0 := box_cell (heap_new wr (.cells #[.string (stS tn), .string (stS tv)] 43)) 0 _ rfl
        have e1 := box_cell (heap_new wr (.cells #[.string (stS tn), .string (stS tv)] 43)) 1 _ rfl
        have BW := hide ((Below.refl wr.heap.size wr).alloc (Nat.le_refl _) (.cells #[.string (stS tn), .string (stS tv)] 43))
        have HY := hide (show (upToL h j).length + ((((stS tn ++ (⟨#[58, 32]⟩ : ByteArray)) ++ stS tv) ++ (⟨#[13, 10]⟩ : ByteArray))).size ≤ 140737488355328 by
          have h1 := unhide HL
          rw [unhide HU, List.length_append, ← unhide HX, len_isB] at h1
          exact h1)
        have EU := hide (show numsT (upToL h j) ++ numsB ((((stS tn ++ (⟨#[58, 32]⟩ : ByteArray)) ++ stS tv) ++ (⟨#[13, 10]⟩ : ByteArray))) = numsT (upToL h (j + 1)) by rw [unhide HU, numsT_app, numsB_is (unhide HX)])
        have HM := hide (numsT_len (upToL h j))
        have HM2 := hide (numsT_len (upToL h (j + 1)))
        clear HU HL HX
        generalize (upToL h j).length = m at *
        go_wp2_with (at_builtin; refine wpList_appendZ rfl (.tmp 33) (.tmp 40) rfl g m k (numsT (upToL h j)) rfl (unhide HM) ((unhide O).later (unhide BW)) _ rfl (unhide HY) (Nat.le_trans (unhide B).size (unhide BW).size) ?_; intro g' n' c' w' hn' ho' hb')
        rw [unhide EU] at hn' ho'
        have hn2 : n' = (upToL h (j + 1)).length := by rw [← unhide hn', unhide HM2]
        subst hn2
        go_wp2
        go_roundw
        case rel => exact ⟨j + 1, g', c', by omega, by first | rfl | (rw [hw]), rfl, hide ho', hide ((unhide B).trans (((unhide BW).mono (unhide B).size).trans hb'))⟩
        case measure => simp [intOf]; omega
      · have hjj : ¬ (j : Int) < (n : Int) := by omega
        obtain rfl : j = n := by omega
        have EE := hide (upTo_end h j (by rw [unhide HN]; exact Nat.le_refl _))
        have HY := hide (show (upToL h j).length + (⟨#[13, 10]⟩ : ByteArray).size ≤ 140737488355328 by
          have h1 := unhide HW
          rw [← unhide EE, List.length_append] at h1
          exact h1)
        have EU := hide (show numsT (upToL h j) ++ numsB (⟨#[13, 10]⟩ : ByteArray) = numsT (writtenL h) by rw [← unhide EE, numsT_app]; rfl)
        have HM := hide (numsT_len (upToL h j))
        have HM2 := hide (numsT_len (writtenL h))
        clear EE
        generalize (upToL h j).length = m at *
        go_wp2_with (at_builtin; refine wpList_appendZ rfl (.tmp 43) (.const (.string ⟨#[13, 10]⟩)) rfl g m k (numsT (upToL h j)) rfl (unhide HM) (unhide O) _ rfl (unhide HY) (unhide B).size ?_; intro g' n' c' w' hn' ho' hb')
        rw [unhide EU] at hn' ho'
        have hn2 : n' = (writtenL h).length := by rw [← unhide hn', unhide HM2]
        subst hn2
        go_wp2
        go_ret
        exact ⟨⟨g', c', rfl, ho'⟩, (unhide B).trans hb'⟩
end Go.Proofs.YtmmiadlmdjfepaaDoor
