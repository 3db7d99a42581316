/- Conf: Check's small functions, the rest: hosts, weights, lists of targets. -/
import Derived.Test.YtjcjleaicjhpeaaGreatDoorB10
import Derived.Test.YtjcjleaicjhpeaaGreatDoorB09
import Derived.Test.YtjcjleaicjhpeaaGreatDoorB03
section
namespace Go.Proofs.YtjcjleaicjhpeaaGreatDoor
open Go.ChangeShapes Go.WideShapes Go.ChangeAt Go.RowKit
set_option linter.unusedVariables false

theorem inf_calls (w : World) : Calls Tryz.prog 137 #[.int .i64 1] w fun e w' => e = .returned (.float .f64 9218868437227405312) ∧ w' = w := by
  have hf : ∀ w, (callFunc 122 #[.int .u64 9218868437227405312]).run Tryz.prog w = .ok (.value (.float .f64 9218868437227405312)) w := fun w => cfrom_call 9218868437227405312 w
  go_enter Tryz.func137, Tryz.ntmps137
  go_wp2
  go_ret
  exact ⟨rfl, rfl⟩
set_option maxRecDepth 20000 in
theorem isWeight_calls (x : Nat) (w : World) : Calls Tryz.prog 80 #[.float .f64 x] w fun e w' => e = .returned (.bool (wtB x)) ∧ Below w.heap.size w w' := by
  have hb := cbits_call x
  have hb2 : ∀ w, (callFunc 91 #[.float .f64 9218868437227405312]).run Tryz.prog w = .ok (.value (.int .u64 9218868437227405312)) w := fun w => cbits_call 9218868437227405312 w
  have B0 := hide (Below.refl w.heap.size w)
  unfold wtB
  by_cases h : x < 9218868437227405312
  · have hi : (x : Int) < 9218868437227405312 := by omega
    have e : decide (x < 9218868437227405312) = true := decide_eq_true h
    rw [e]
    go_enter Tryz.func80, Tryz.ntmps80
    go_wp2_with (go_at_call 137; refine (inf_calls _).mono ?_; rintro e w1 ⟨rfl, rfl⟩)
    go_ret
    exact ⟨by rfl, by first | exact unhide B0 | exact (unhide B0).drew⟩
  · have hi : ¬ (x : Int) < 9218868437227405312 := by omega
    have e : decide (x < 9218868437227405312) = false := decide_eq_false h
    have dI : decide ((x : Int) < 9218868437227405312) = false := decide_eq_false hi
    rw [e]
    go_enter Tryz.func80, Tryz.ntmps80
    go_wp2_with (go_at_call 137; refine (inf_calls _).mono ?_; rintro e w1 ⟨rfl, rfl⟩)
    go_ret
    exact ⟨rfl, by first | exact unhide B0 | exact (unhide B0).drew⟩
theorem all_drop {α : Type} (l : List α) (f : α → Bool) (j : Nat) (h : j < l.length) : (l.drop j).all f = (f l[j] && (l.drop (j + 1)).all f) := by
  rw [List.drop_eq_getElem_cons h]; rfl
set_option maxRecDepth 20000 in
set_option maxHeartbeats 4000000 in
theorem weightsMayBe_calls {w : World} {a : Option Addr} {l : List Tgt} (h : TgsAt w a l) (n c : Nat) (hn : l.length = n) (hx : n ≤ maxLen) :
    Calls Tryz.prog 39 #[.slice a n c] w fun e w' => e = .returned (.bool (wtsOk l)) ∧ Below w.heap.size w w' := by
  have H1 := hide h
  have HN := hide hn
  have E0 := hide (show wtsOk l = (l.drop 0).all (fun t => wtB t.2) from rfl)
  simp only [maxLen] at hx
  have hsF := run_storeF .plain
  clear h hn
  go_enter Tryz.func39, Tryz.ntmps39
  go_wp2_with fail
  go_loopw [7] (fun i wr => ∃ j : Nat, j ≤ n ∧ i = .int .i64 (j : Int) ∧ Hid (wtsOk l = (l.drop j).all (fun t => wtB t.2)) ∧ Hid (Below w.heap.size w wr)) (fun i _ => n - (intOf i).toNat)
  case atStart => exact ⟨0, by omega, rfl, E0, hide (Below.refl _ _)⟩
  case round =>
    obtain ⟨j, hj, rfl, HE, B⟩ := hrel
    by_cases hjn : j < n
    · have y0 : (0 : Int) ≤ (j : Int) := by omega
      have y1 : (j : Int) < (n : Int) := by omega
      have hjl : j < l.length := by rw [unhide HN]; exact hjn
      obtain ⟨b1, o1, rfl, q0, q1⟩ := (unhide H1).cell j hjl
      have p0 := cell_later (unhide B) q0
      have p1 := cell_later (unhide B) q1
      have HD := hide (show wtsOk l = (wtB l[j].2 && (l.drop (j + 1)).all (fun t => wtB t.2)) by rw [unhide HE, all_drop l _ j hjl])
      clear HE q0 q1
      generalize l[j] = t at *
      obtain ⟨s, x⟩ := t
      simp only at p0 p1 HD
      have X1 := heap_new wr (.cells #[.string s, .float .f64 x] 70)
      have c1 := box_cell X1 1 (.float .f64 x) rfl
      have BX := hide (show Below w.heap.size w (wr.alloc (.cells #[.string s, .float .f64 x] 70)) from (unhide B).alloc (unhide B).size _)
      clear X1
      cases hw : wtB x
      · rw [hw] at HD
        go_wp2_with (go_at_call 80; refine (isWeight_calls x _).mono ?_; rintro e w1 ⟨rfl, hb⟩; rw [hw])
        go_ret
        exact ⟨by rw [unhide HD]; rfl, (unhide BX).trans (hb.mono (unhide BX).size)⟩
      · rw [hw] at HD
        go_wp2_with (go_at_call 80; refine (isWeight_calls x _).mono ?_; rintro e w1 ⟨rfl, hb⟩; rw [hw]; have B3 := hide ((unhide BX).trans (hb.mono (unhide BX).size)); clear hb)
        exact ⟨⟨j + 1, by omega, by go_num, hide (by rw [unhide HD]; rfl), B3⟩, by simp [intOf]; omega⟩
    · have hjj : ¬ (j : Int) < (n : Int) := by omega
      have E3 := hide (show wtsOk l = true by rw [unhide HE, List.drop_of_length_le (by rw [unhide HN]; omega)]; rfl)
      go_wp2
      go_ret
      exact ⟨by rw [unhide E3]; rfl, unhide B⟩
set_option maxRecDepth 20000 in
set_option maxHeartbeats 4000000 in
theorem addressesMayBe_calls {w : World} {a : Option Addr} {l : List Tgt} (h : TgsAt w a l) (hz : ∀ t ∈ l, t.1.size ≤ 140737488355328) (n c : Nat) (hn : l.length = n) (hx : n ≤ maxLen) :
    Calls Tryz.prog 79 #[.slice a n c] w fun e w' => e = .returned (.bool (l.all (fun t => addrT t.1))) ∧ Below w.heap.size w w' := by
  have H1 := hide h
  have HN := hide hn
  have HZ := hide hz
  have E0 := hide (show l.all (fun t => addrT t.1) = (l.drop 0).all (fun t => addrT t.1) from rfl)
  simp only [maxLen] at hx
  have hsF := run_storeF .plain
  generalize hR : l.all (fun t => addrT t.1) = R at *
  clear h hn hz hR
  go_enter Tryz.func79, Tryz.ntmps79
  go_wp2_with fail
  go_loopw [7] (fun i wr => ∃ j : Nat, j ≤ n ∧ i = .int .i64 (j : Int) ∧ Hid (R = (l.drop j).all (fun t => addrT t.1)) ∧ Hid (Below w.heap.size w wr)) (fun i _ => n - (intOf i).toNat)
  case atStart => exact ⟨0, by omega, rfl, E0, hide (Below.refl _ _)⟩
  case round =>
    obtain ⟨j, hj, rfl, HE, B⟩ := hrel
    by_cases hjn : j < n
    · have y0 : (0 : Int) ≤ (j : Int) := by omega
      have y1 : (j : Int) < (n : Int) := by omega
      have hjl : j < l.length := by rw [unhide HN]; exact hjn
      obtain ⟨b1, o1, rfl, q0, q1⟩ := (unhide H1).cell j hjl
      have p0 := cell_later (unhide B) q0
      have p1 := cell_later (unhide B) q1
      have HD := hide (show R = (addrT l[j].1 && (l.drop (j + 1)).all (fun t => addrT t.1)) by rw [unhide HE, all_drop l _ j hjl])
      have HS := hide (unhide HZ l[j] (List.getElem_mem hjl))
      clear HE q0 q1
      generalize l[j] = t at *
      obtain ⟨s, x⟩ := t
      simp only at p0 p1 HD HS
      have X1 := heap_new wr (.cells #[.string s, .float .f64 x] 70)
      have c1 := box_cell X1 0 (.string s) rfl
      have BX := hide (show Below w.heap.size w (wr.alloc (.cells #[.string s, .float .f64 x] 70)) from (unhide B).alloc (unhide B).size _)
      clear X1
      cases hw : addrT s
      · rw [hw] at HD
        go_wp2_with (go_at_call 136; refine (isAddress_calls s (unhide HS) _).mono ?_; rintro e w1 ⟨rfl, hb⟩; rw [hw])
        go_ret
        exact ⟨by rw [unhide HD]; rfl, (unhide BX).trans (hb.mono (unhide BX).size)⟩
      · rw [hw] at HD
        go_wp2_with (go_at_call 136; refine (isAddress_calls s (unhide HS) _).mono ?_; rintro e w1 ⟨rfl, hb⟩; rw [hw]; have B3 := hide ((unhide BX).trans (hb.mono (unhide BX).size)); clear hb)
        exact ⟨⟨j + 1, by omega, by go_num, hide (by rw [unhide HD]; rfl), B3⟩, by simp [intOf]; omega⟩
    · have hjj : ¬ (j : Int) < (n : Int) := by omega
      have E3 := hide (show R = true by rw [unhide HE, List.drop_of_length_le (by rw [unhide HN]; omega)]; rfl)
      go_wp2
      go_ret
      exact ⟨by rw [unhide E3]; rfl, unhide B⟩
/-- The library's variable that strings.Split reads. -/
def Mx (w : World) : Prop := ∃ m, w.cell? ⟨Tryz.laysM146_ren.g 1, 0, none⟩ = some (.int .i64 m)
theorem Mx.later {w w' : World} (h : Mx w) (hb : Below w.heap.size w w') : Mx w' := let ⟨m, hm⟩ := h; ⟨m, cell_later hb hm⟩
theorem split_calls (s : ByteArray) (w : World) (hm : Mx w) (hs : s.size ≤ 64) : Calls Tryz.prog 132 #[.string s, .string ⟨#[46]⟩] w fun e w' =>
    e = .returned (.slice (some ⟨w.heap.size, 0, none⟩) (Lib.splitB dotB 0 (Lib.countB s dotB) s).length (Lib.splitB dotB 0 (Lib.countB s dotB) s).length) ∧ w' = w.alloc (.cells ((Lib.splitB dotB 0 (Lib.countB s dotB) s).map Value.string).toArray 9) := by
  obtain ⟨m, hm⟩ := hm
  have h1 : 1 ≤ dotB.size := by decide
  have hlen := Lib.splitB_all dotB h1 0 _ s rfl
  have := Any.strings_Split { Tryz.laysM146 with } Tryz.laysM146.i9 s dotB m w (by omega) hm h1
  rw [hlen]
  exact this
set_option maxRecDepth 20000 in
set_option maxHeartbeats 4000000 in
theorem isHost_calls (s : ByteArray) (hs : s.size ≤ 140737488355328) (w : World) (hm : Mx w) : Calls Tryz.prog 76 #[.string s] w fun e w' => e = .returned (.bool (hostT s)) ∧ Below w.heap.size w w' := by
  by_cases h64 : s.size ≤ 64
  · have SC := hide (split_calls s w hm h64)
    have E0 := hide (show hostT s = ((Lib.splitB dotB 0 (Lib.countB s dotB) s).drop 0).all nameT by rw [List.drop_zero, split_host _ s rfl h64]; unfold hostT; rw [decide_eq_true h64]; rfl)
    have HZ := hide (show ∀ p ∈ Lib.splitB dotB 0 (Lib.countB s dotB) s, p.size ≤ 140737488355328 from fun p hp => Nat.le_trans (split_le _ _ _ hp) hs)
    have HC := hide (show (Lib.splitB dotB 0 (Lib.countB s dotB) s).length ≤ 65 by
      rw [Lib.splitB_all dotB (by decide) 0 _ s rfl]
      have := Lib.countB_le dotB (by decide) s.size s (Nat.le_refl _)
      omega)
    have hi : ¬ (64 : Int) < (s.size : Int) := by omega
    generalize Lib.splitB dotB 0 (Lib.countB s dotB) s = l at *
    have X1 := heap_new w (.cells (l.map Value.string).toArray 9)
    have HX := hide X1
    have B0 := hide (show Below w.heap.size w (w.alloc (.cells (l.map Value.string).toArray 9)) from (Below.refl _ _).alloc (Nat.le_refl _) _)
    have KC := hide (show ∀ j x W, l[j]? = some x → Below (w.heap.size + 1) (w.alloc (.cells (l.map Value.string).toArray 9)) W → W.cell? ⟨w.heap.size, j, none⟩ = some (.string x) from fun j x W hx hb => by
      have hg := (hb.block w.heap.size (by omega)).trans (unhide HX)
      rw [cell_of_row _ _ _ _ _ _ hg]
      simp [hx])
    have hc := unhide HC
    clear X1 HX HC hm h64
    generalize hn : l.length = n at *
    have HN := hide hn
    clear hn
    go_enter Tryz.func76, Tryz.ntmps76
    go_wp2_with (go_at_call 132; refine (unhide SC).mono ?_; rintro e w1 ⟨rfl, rfl⟩)
    go_loopw [11] (fun i wr => ∃ j : Nat, j ≤ n ∧ i = .int .i64 (j : Int) ∧ Hid (hostT s = (l.drop j).all nameT) ∧ Hid (Below (w.heap.size + 1) (w.alloc (.cells (l.map Value.string).toArray 9)) wr)) (fun i _ => n - (intOf i).toNat)
    case atStart => exact ⟨0, by omega, rfl, E0, hide (Below.refl _ _)⟩
    case round =>
      obtain ⟨j, hj, rfl, HE, B⟩ := hrel
      by_cases hjn : j < n
      · have y0 : (0 : Int) ≤ (j : Int) := by omega
        have y1 : (j : Int) < (n : Int) := by omega
        have hjl : j < l.length := by rw [unhide HN]; exact hjn
        have p0 := unhide KC j _ wr (List.getElem?_eq_getElem hjl) (unhide B)
        have HD := hide (show hostT s = (nameT l[j] && (l.drop (j + 1)).all nameT) by rw [unhide HE, all_drop l _ j hjl])
        have HS := hide (unhide HZ l[j] (List.getElem_mem hjl))
        clear HE
        generalize l[j] = t at *
        cases hw : nameT t
        · rw [hw] at HD
          go_wp2_with (go_at_call 78; refine (isName_calls t (unhide HS) _).mono ?_; rintro e w1 ⟨rfl, hb⟩; rw [hw])
          go_ret
          exact ⟨by rw [unhide HD]; rfl, (unhide B0).trans (((unhide B).trans (hb.mono (by have := (unhide B).size; simp at this; omega))).mono (by simp))⟩
        · rw [hw] at HD
          go_wp2_with (go_at_call 78; refine (isName_calls t (unhide HS) _).mono ?_; rintro e w1 ⟨rfl, hb⟩; rw [hw]; have B3 := hide ((unhide B).trans (hb.mono (by have := (unhide B).size; simp at this; omega))); clear hb)
          exact ⟨⟨j + 1, by omega, by go_num, hide (by rw [unhide HD]; rfl), B3⟩, by simp [intOf]; omega⟩
      · have hjj : ¬ (j : Int) < (n : Int) := by omega
        have E3 := hide (show hostT s = true by rw [unhide HE, List.drop_of_length_le (by rw [unhide HN]; omega)]; rfl)
        go_wp2
        go_ret
        exact ⟨by rw [unhide E3]; rfl, (unhide B0).trans ((unhide B).mono (by simp))⟩
  · have hi : (64 : Int) < (s.size : Int) := by omega
    have E := hide (show hostT s = false by unfold hostT; rw [decide_eq_false h64]; rfl)
    go_enter Tryz.func76, Tryz.ntmps76
    go_wp2
    go_ret
    exact ⟨by rw [unhide E]; rfl, Below.refl _ _⟩
end Go.Proofs.YtjcjleaicjhpeaaGreatDoor
end
/- Conf: texts, weights, targets appended to bytes of one's own. -/
section
namespace Go.Proofs.YtjcjleaicjhpeaaGreatDoor
open Go.ChangeShapes Go.WideShapes Go.ChangeAt Go.RowKit
set_option linter.unusedVariables false

def tsRow (ts : List ByteArray) : Array Value := (ts.map Value.string).toArray
theorem tsRow_at (ts : List ByteArray) (j : Nat) (h : j < ts.length) : (tsRow ts)[j]? = some (.string ts[j]) := by
  unfold tsRow
  simp [h]
set_option maxRecDepth 20000 in
set_option maxHeartbeats 4000000 in
theorem addTexts_calls (base : Nat) {w : World} {sp : Option Addr} {n0 c : Nat} {l : List Nat} (hn0 : l.length = n0) (hown : OwnB base w sp c l) (B m mc : Nat) (ts : List ByteArray) (hm : ts.length = m) (hB : w.heap[B]? = some (.cells (tsRow ts) 9 (0, 0)))
    (hts : ∀ t ∈ ts, t.size ≤ 1000000) (hsz : l.length + 1000006 * m ≤ 140737488355328) (hm2 : m ≤ 1000) (hbase : base ≤ w.heap.size) :
    Calls Tryz.prog 149 #[.slice sp n0 c, .slice (some ⟨B, 0, none⟩) m mc] w fun e w' => ∃ sp' n' c', e = .returned (.slice sp' n' c') ∧ Hid ((l ++ txsB ts).length = n') ∧ OwnB base w' sp' c' (l ++ txsB ts) ∧ Grew w sp w' sp' := by
  have HO := hide hown
  have HN := hide hn0
  have HM := hide hm
  have HB := hide hB
  have HNE := hide (hown.ne hB tyne.2)
  have HNS := hide hts
  have LE := hide (show ∀ j, ((ts.take j).flatMap txB).length ≤ 1000006 * m from fun j => by
    have h1 := flat_le txB 1000006 (ts.take j) (fun x hx => by
      have h2 := hts x (List.mem_of_mem_take hx)
      have := txB_len x (by omega)
      omega)
    have h2 : (ts.take j).length ≤ m := by rw [← hm, List.length_take]; omega
    omega)
  clear hown hn0 hm hB hts
  go_enter Tryz.func149, Tryz.ntmps149
  go_wp2
  go_loopw [0, 9] (fun v i wr => ∃ (j : Nat) (sp' : Option Addr) (n' c' : Nat), j ≤ m ∧ v = .slice sp' n' c' ∧ i = .int .i64 (j : Int) ∧ Hid ((l ++ (ts.take j).flatMap txB).length = n') ∧ Hid (OwnB base wr sp' c' (l ++ (ts.take j).flatMap txB)) ∧ Hid (Grew w sp wr sp')) (fun _ i _ => m - (intOf i).toNat)
  case atStart => exact ⟨0, sp, n0, c, by omega, rfl, rfl, hide (by simpa using unhide HN), hide (by simpa using unhide HO), Grew.refl _ _⟩
  case round =>
    obtain ⟨j, sp', n', c', hj, rfl, rfl, hl', ho', hg'⟩ := hrel
    by_cases hjm : j < m
    · have y0 : (0 : Int) ≤ (j : Int) := by omega
      have y1 : (j : Int) < (m : Int) := by omega
      have hjl : j < ts.length := by rw [unhide HM]; exact hjm
      have hBr := Grew.block (unhide hg') (unhide HB) (unhide HNE)
      have p0 := box_cell hBr j _ (tsRow_at ts j hjl)
      have hx := unhide HNS ts[j] (List.getElem_mem hjl)
      have FT := hide (flat_take txB ts j hjl)
      generalize ts[j] = x at *
      have LJ := hide (show (l ++ (ts.take j).flatMap txB).length + 6 + x.size ≤ 140737488355328 by
        have h1 := unhide LE j
        have h2 : 1000006 * (j + 1) ≤ 1000006 * m := Nat.mul_le_mul_left _ (by omega)
        have h3 : ((ts.take j).flatMap txB).length ≤ 1000006 * j := by
          have h1 := flat_le txB 1000006 (ts.take j) (fun x hx => by
            have h2 := unhide HNS x (List.mem_of_mem_take hx)
            have := txB_len x (by omega)
            omega)
          have h2 : (ts.take j).length ≤ j := by rw [List.length_take]; omega
          omega
        rw [List.length_append]; omega)
      have hbr : base ≤ wr.heap.size := Nat.le_trans hbase (unhide hg').grown.size
      have X1 := hide (show (wr.alloc (.cells (nsRow [x.size]) 3)).heap[wr.heap.size]? = some (.cells (nsRow [x.size]) 3 (0, 0)) from heap_new wr (.cells (nsRow [x.size]) 3))
      have bA := hide (show Below wr.heap.size wr (wr.alloc (.cells (nsRow [x.size]) 3)) from (Below.refl _ _).alloc (Nat.le_refl _) _)
      have CN := hide (addNumbers_calls base (unhide hl') ((unhide ho').later (unhide bA)) wr.heap.size 1 1 [x.size] rfl (unhide X1) (by intro n hn; simp at hn; omega) (by have := unhide LJ; omega) (by omega) (Nat.le_trans hbr (unhide bA).size))
      have hxs : x.size ≤ 1000000 := hx
      rw [show nsRow [x.size] = #[.int .i64 (x.size : Int)] from rfl] at CN X1 bA
      clear hBr hx
      go_wp2_with fail
      refine (unhide CN).mono ?_
      rintro e V ⟨s1, m1, c1, rfl, hn1, ho1, hg1⟩
      have hV := hide (Grew.aside (unhide bA) hg1)
      have hvs : base ≤ V.heap.size := Nat.le_trans hbr (unhide hV).grown.size
      have HO1 := hide ho1
      have hne1 := hide (ho1.some_ (by rw [List.length_append]; have := (numB_length x.size).1; simp [numsB]; omega))
      have hs2 := hide (show m1 + x.size ≤ 140737488355328 by
        rw [← unhide hn1, List.length_append]
        have h1 := unhide LJ
        have h2 := numB_len6 x.size (by omega)
        simp [numsB]
        simp at h1
        omega)
      clear ho1 hg1 CN
      go_wp2_with (at_builtin; refine wpList_appendS8 rfl (.tmp 17) (.tmp 18) rfl s1 m1 c1 _ rfl (unhide hn1) (unhide HO1) (unhide hne1) x rfl (unhide hs2) hvs ?_; intro sp2 n2 c2 W2 hn2 ho3 hg2 hnn; rw [List.append_assoc, List.append_assoc, show numsB [x.size] ++ bsT x = txB x by simp [numsB, txB], ← unhide FT] at hn2 ho3; have HO3 := hide ho3; clear ho3)
      have hbn := hide ((unhide hg').trans ((unhide hV).trans hg2))
      exact ⟨⟨j + 1, sp2, n2, c2, by omega, rfl, by go_num, by first | exact hn2 | exact hide (by rw [List.length_append]; exact unhide hn2), unhide HO3, unhide hbn⟩, by simp [intOf]; omega⟩
    · have hjj : ¬ (j : Int) < (m : Int) := by omega
      have E := hide (show (ts.take j).flatMap txB = txsB ts by rw [List.take_of_length_le (by rw [unhide HM]; omega)]; rfl)
      go_wp2
      go_ret
      exact ⟨sp', n', c', rfl, hide (by rw [← unhide E]; simpa using unhide hl'), by rw [← unhide E]; exact unhide ho', unhide hg'⟩
end Go.Proofs.YtjcjleaicjhpeaaGreatDoor
end
/- Conf: weights, targets, pools, routes appended to bytes of one's own. -/
section
namespace Go.Proofs.YtjcjleaicjhpeaaGreatDoor
open Go.ChangeShapes Go.WideShapes Go.ChangeAt Go.RowKit
set_option linter.unusedVariables false

/-- A weight's bytes: the highest first. -/
def wtBy (x : Nat) : List Nat := (List.range 8).map (fun k => x / 2 ^ (56 - 8 * k) % 256)
theorem wtBy_len (x : Nat) : (wtBy x).length = 8 := by simp [wtBy]
theorem wtBy_take (x j : Nat) (h : j < 8) : (wtBy x).take (j + 1) = (wtBy x).take j ++ [x / 2 ^ (56 - 8 * j) % 256] := by
  rw [List.take_succ_eq_append_getElem (by rw [wtBy_len]; exact h)]
  simp [wtBy]
theorem shr_byte (x s : Nat) : ((x : Int) / 2 ^ s) % 256 = ((x / 2 ^ s % 256 : Nat) : Int) := by
  have : ((x / 2 ^ s : Nat) : Int) = (x : Int) / 2 ^ s := by simp
  rw [← this]
  omega
set_option maxRecDepth 20000 in
set_option maxHeartbeats 4000000 in
theorem addWeight_calls (base : Nat) {w : World} {sp : Option Addr} {n0 c : Nat} {l : List Nat} (hn0 : l.length = n0) (hown : OwnB base w sp c l) (x : Nat) (hx : x < 18446744073709551616) (hsz : l.length + 8 ≤ 140737488355328) (hbase : base ≤ w.heap.size) :
    Calls Tryz.prog 188 #[.slice sp n0 c, .float .f64 x] w fun e w' => ∃ sp' n' c', e = .returned (.slice sp' n' c') ∧ Hid ((l ++ wtBy x).length = n') ∧ OwnB base w' sp' c' (l ++ wtBy x) ∧ Grew w sp w' sp' := by
  have HO := hide hown
  have HN := hide hn0
  have hbits := cbits_call x
  have LE := hide (show ∀ j, ((wtBy x).take j).length ≤ 8 from fun j => by have := wtBy_len x; rw [List.length_take]; omega)
  clear hown hn0
  go_enter Tryz.func188, Tryz.ntmps188
  go_wp2_with fail
  go_loopw [0, 6] (fun v i wr => ∃ (j : Nat) (sp' : Option Addr) (n' c' : Nat), j ≤ 8 ∧ v = .slice sp' n' c' ∧ i = .int .i64 (56 - 8 * (j : Int)) ∧ Hid ((l ++ (wtBy x).take j).length = n') ∧ Hid (OwnB base wr sp' c' (l ++ (wtBy x).take j)) ∧ Hid (Grew w sp wr sp')) (fun _ i _ => (intOf i + 8).toNat)
  case atStart => exact ⟨0, sp, n0, c, by omega, rfl, rfl, hide (by simpa using unhide HN), hide (by simpa using unhide HO), Grew.refl _ _⟩
  case round =>
    obtain ⟨j, sp', n', c', hj, rfl, rfl, hl', ho', hg'⟩ := hrel
    by_cases hjm : j < 8
    · obtain ⟨s, hs⟩ : ∃ s : Nat, s = 56 - 8 * j := ⟨_, rfl⟩
      have hsi : 56 - 8 * (j : Int) = (s : Int) := by omega
      have hnx := hide (show (s : Int) - 8 = 56 - 8 * ((j + 1 : Nat) : Int) by omega)
      have y0 : (0 : Int) ≤ (s : Int) := by omega
      have y1 : (s : Int) ≤ 56 := by omega
      have y2 : s ≤ 64 := by omega
      have hmin : min s 64 = s := by omega
      have hby := shr_byte x s
      have HB := hide hby
      have FT := hide (wtBy_take x j hjm)
      rw [← hs] at FT
      have hw8 : IntKind.u8.wrap ((x : Int) / 2 ^ s) = ((x / 2 ^ s % 256 : Nat) : Int) := by rw [← hby, IntKind.wrap_u8]
      rw [hsi]
      have hq2 : x / 2 ^ s % 256 < 256 := Nat.mod_lt _ (by decide)
      generalize hq : x / 2 ^ s % 256 = q at *
      have hlit := hide (bytesAt_block (l := [q]) (heap_new wr (.cells #[.int .u8 (q : Int)] 5)) (by intro c hc; simp only [List.mem_cons, List.not_mem_nil, or_false] at hc; omega))
      have bA := hide (show Below wr.heap.size wr (wr.alloc (.cells #[.int .u8 (q : Int)] 5)) from (Below.refl _ _).alloc (Nat.le_refl _) _)
      have hbr : base ≤ wr.heap.size := Nat.le_trans hbase (unhide hg').grown.size
      have hs2 := hide (show (l ++ (wtBy x).take j).length + 1 ≤ 140737488355328 by
        rw [List.length_append]
        have : ((wtBy x).take j).length ≤ 7 := by rw [List.length_take]; omega
        omega)
      have hj1 : j + 1 ≤ 8 := by omega
      clear hs hsi hq hjm
      go_wp2_with (at_builtin; refine wpList_append8L rfl (.tmp 13) (.tmp 18) rfl base sp' n' c' _ rfl (unhide hl') (by exact (unhide ho').later (unhide bA)) (some ⟨wr.heap.size, 0, none⟩) 1 1 rfl [q] rfl (by exact unhide hlit) (fun h => by cases h) (unhide hs2) (Nat.le_trans hbr (unhide bA).size) ?_; intro sp2 n2 c2 W2 hn2 ho2 hg2 hb2; rw [List.append_assoc, ← unhide FT] at hn2 ho2; have HO2 := hide ho2; clear ho2)
      have hbn := hide ((unhide hg').trans (Grew.aside (unhide bA) ⟨hg2, hb2⟩))
      refine ⟨⟨j + 1, sp2, n2, c2, hj1, rfl, ?_, by first | exact hn2 | exact hide (by rw [List.length_append]; exact unhide hn2), unhide HO2, unhide hbn⟩, ?_⟩
      · first | (rw [unhide hnx]) | (rw [← unhide hnx]; go_num)
      · have hh := unhide hnx
        simp [intOf]
        omega
    · have hj8 : j = 8 := by omega
      have E := hide (show (wtBy x).take j = wtBy x from List.take_of_length_le (by rw [wtBy_len]; omega))
      have y0 : ¬ (0 : Int) ≤ 56 - 8 * (j : Int) := by omega
      clear hj8
      go_wp2
      go_ret
      exact ⟨sp', n', c', rfl, hide (by rw [← unhide E]; simpa using unhide hl'), by rw [← unhide E]; exact unhide ho', unhide hg'⟩
/-- The bytes of targets, of a pool, of a route, of a configuration. -/
def tgB (t : Tgt) : List Nat := txB t.1 ++ wtBy t.2
def tgsB (ts : List Tgt) : List Nat := numB ts.length ++ ts.flatMap tgB
def poolB (p : Po) : List Nat := txB p.nm ++ tgsB p.ts
def routeB (r : Rt) : List Nat := txB r.h ++ (txB r.p ++ txB r.l)
def confB (e : Cf) : List Nat := numB e.ps.length ++ (e.ps.flatMap poolB ++ (numB e.rs.length ++ e.rs.flatMap routeB))
end Go.Proofs.YtjcjleaicjhpeaaGreatDoor
end
