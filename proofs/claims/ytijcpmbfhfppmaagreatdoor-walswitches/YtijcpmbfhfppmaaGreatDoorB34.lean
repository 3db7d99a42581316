/- Logs, plainly: Open of a disk with an elder log beside, or with what a writing left (WalSwitches). -/
import Derived.Test.YtijcpmbfhfppmaaGreatDoorB29
import Derived.Test.YtijcpmbfhfppmaaGreatDoorB32
import Derived.Test.YtijcpmbfhfppmaaGreatDoorB26
import Derived.Test.YtijcpmbfhfppmaaGreatDoorB31
import Derived.Test.YtijcpmbfhfppmaaGreatDoorB28
section
namespace Go.Proofs.YtijcpmbfhfppmaaGreatDoor
open Go.ChangeShapes Go.WideShapes Go.ChangeAt Go.RowKit
set_option linter.unusedVariables false

theorem oth_self (n : Nat) (h1 : 1 ≤ n) (h2 : n ≤ 1099511627776) : othW n (walNm n) = false := by
  unfold othW
  rw [numW_walNm n h1 h2]
  simp [tmp_ne n]
theorem oth_tmp (n : Nat) : othW n tmpW = true := by
  unfold othW
  simp
theorem oth_wal {n m : Nat} (h1 : 1 ≤ m) (h2 : m ≤ 1099511627776) (h : m ≠ n) : othW n (walNm m) = true := by
  unfold othW
  rw [numW_walNm m h1 h2]
  simp [h]
  omega
/-- What a writing left goes. -/
theorem wOpen_tmp (room n : Nat) (s s2 : Sp) (h1 : 1 ≤ n) (h2 : n ≤ 1099511627776) : wOpen room [(walNm n, s), (tmpW, s2)] = wOpen room [(walNm n, s)] := by
  have hg : greatW ([(walNm n, s), (tmpW, s2)].map (·.1)) 0 = n := by
    show max (max 0 (numW (walNm n))) (numW tmpW) = n
    rw [numW_walNm n h1 h2, tmp_num]
    omega
  have hR : Rises [(walNm n, s), (tmpW, s2)] := by
    unfold Rises
    simp [wal_lt n]
  have hd : dRemove tmpW [(walNm n, s), (tmpW, s2)] = (0, [(walNm n, s)]) := by
    unfold dRemove
    rw [getS_mem hR (by simp : (tmpW, s2) ∈ [(walNm n, s), (tmpW, s2)])]
    dsimp only
    simp [delF, tmp_ne n]
  have hr : remO n ([(walNm n, s), (tmpW, s2)].map (·.1)) [(walNm n, s), (tmpW, s2)] = [(walNm n, s)] := by
    show remO n [tmpW] (if othW n (walNm n) = true then (dRemove (walNm n) [(walNm n, s), (tmpW, s2)]).2 else [(walNm n, s), (tmpW, s2)]) = _
    rw [if_neg (by rw [oth_self n h1 h2]; simp)]
    show (if othW n tmpW = true then (dRemove tmpW [(walNm n, s), (tmpW, s2)]).2 else [(walNm n, s), (tmpW, s2)]) = _
    rw [if_pos (oth_tmp n), hd]
  rw [wOpen_one room n s h1 h2]
  unfold wOpen
  rw [hg, if_pos (by omega), hr]
/-- An elder log goes. -/
theorem wOpen_two (room n m : Nat) (s s2 : Sp) (h1 : 1 ≤ n) (h2 : n < m) (h3 : m ≤ 1099511627776) (hlt : walNm n < walNm m) : wOpen room [(walNm n, s), (walNm m, s2)] = wOpen room [(walNm m, s2)] := by
  have hg : greatW ([(walNm n, s), (walNm m, s2)].map (·.1)) 0 = m := by
    show max (max 0 (numW (walNm n))) (numW (walNm m)) = m
    rw [numW_walNm n h1 (by omega), numW_walNm m (by omega) h3]
    omega
  have hR : Rises [(walNm n, s), (walNm m, s2)] := by
    unfold Rises
    simp [hlt]
  have hne : walNm m ≠ walNm n := fun e => by have := walNm_inj (by omega) (by omega) e; omega
  have hd : dRemove (walNm n) [(walNm n, s), (walNm m, s2)] = (0, [(walNm m, s2)]) := by
    unfold dRemove
    rw [getS_mem hR (by simp : (walNm n, s) ∈ [(walNm n, s), (walNm m, s2)])]
    dsimp only
    simp [delF, hne]
  have hr : remO m ([(walNm n, s), (walNm m, s2)].map (·.1)) [(walNm n, s), (walNm m, s2)] = [(walNm m, s2)] := by
    show remO m [walNm m] (if othW m (walNm n) = true then (dRemove (walNm n) [(walNm n, s), (walNm m, s2)]).2 else [(walNm n, s), (walNm m, s2)]) = _
    rw [if_pos (oth_wal h1 (by omega) (by omega)), hd]
    show (if othW m (walNm m) = true then (dRemove (walNm m) [(walNm m, s2)]).2 else [(walNm m, s2)]) = _
    rw [if_neg (by rw [oth_self m (by omega) h3]; simp)]
  rw [wOpen_one room m s2 (by omega) h3]
  unfold wOpen
  rw [hg, if_pos (by omega), hr]
theorem wal12 : walNm 1 < walNm 2 := by
  have h1 : walNm 1 = [119, 97, 108, 45, 49] := by kernel_rfl
  have h2 : walNm 2 = [119, 97, 108, 45, 50] := by kernel_rfl
  rw [h1, h2]
  decide
/-- A file is written, and synced, on an empty disk. -/
theorem dWrite_first (room n : Nat) (b : List Nat) (h2 : n ≤ 1099511627776) (hb : b.length ≤ 262144) (hr : b.length ≤ room) : dWrite room (walNm n) 0 b [] = (0, [(walNm n, wrote sp0 0 b)]) := by
  have e0 : (((getS (walNm n) ([] : Ds)).getD sp0).now.length : Int) = 0 := rfl
  unfold dWrite
  rw [if_neg (by rw [walNm_ok n (by omega)]; simp), if_neg (by rw [e0]; omega), if_neg (by
    rintro (⟨_, h⟩ | h)
    · simp at h
    · omega), if_neg (by rw [e0]; simp [usedS]; omega)]
  rfl
theorem dSync_first (n : Nat) (b : List Nat) : dSync (walNm n) [(walNm n, wrote sp0 0 b)] = (0, [(walNm n, ⟨true, b, []⟩)]) := by
  unfold dSync
  rw [getS_one]
  dsimp only
  rw [now_wrote, putF_one]
/-- Then what a writing leaves, and a crash. -/
theorem dWrite_tmp (room n : Nat) (a b : List Nat) (h2 : n ≤ 1099511627776) (hb : b.length ≤ 262144) (hr : a.length + b.length ≤ room) : dWrite room tmpW 0 b [(walNm n, ⟨true, a, []⟩)] = (0, [(walNm n, ⟨true, a, []⟩), (tmpW, wrote sp0 0 b)]) := by
  have hg : getS tmpW [(walNm n, (⟨true, a, []⟩ : Sp))] = none := getS_not (tmp_ne n) _
  have e0 : (((none : Option Sp).getD sp0).now.length : Int) = 0 := rfl
  have hu : usedS [(walNm n, (⟨true, a, []⟩ : Sp))] = a.length := used_one _ _
  unfold dWrite
  rw [if_neg (by rw [tmp_nameL]; simp), hg, if_neg (by rw [e0]; omega), if_neg (by
    rintro (⟨_, h⟩ | h)
    · simp at h
    · omega), if_neg (by rw [e0, hu]; omega), putF_tmp]
  rfl
theorem crash_tmp (ks : List Int) (n : Nat) (a : List Nat) (s2 : Sp) : crashS ks 0 [(walNm n, ⟨true, a, []⟩), (tmpW, s2)] = [(walNm n, ⟨true, a, []⟩)] ∨ ∃ s3, crashS ks 0 [(walNm n, ⟨true, a, []⟩), (tmpW, s2)] = [(walNm n, ⟨true, a, []⟩), (tmpW, s3)] := by
  have h1 : crashOne (unitsAt ks 0) (walNm n, (⟨true, a, []⟩ : Sp)) = [(walNm n, ⟨true, a, []⟩)] := by
    unfold crashOne
    rw [if_neg (by simp)]
    rfl
  show crashOne (unitsAt ks 0) (walNm n, (⟨true, a, []⟩ : Sp)) ++ (crashOne (unitsAt ks 1) (tmpW, s2) ++ []) = _ ∨ ∃ s3, crashOne (unitsAt ks 0) (walNm n, (⟨true, a, []⟩ : Sp)) ++ (crashOne (unitsAt ks 1) (tmpW, s2) ++ []) = _
  rw [h1, List.append_nil]
  unfold crashOne
  split
  · exact .inl rfl
  · exact .inr ⟨_, rfl⟩
/-- So the elder log counts where the newer one was not renamed. -/
theorem wOpen_torn (room n : Nat) (ks : List Int) (a : List Nat) (s2 : Sp) (h1 : 1 ≤ n) (h2 : n ≤ 1099511627776) : wOpen room (crashS ks 0 [(walNm n, ⟨true, a, []⟩), (tmpW, s2)]) = wOpen room [(walNm n, ⟨true, a, []⟩)] := by
  rcases crash_tmp ks n a s2 with h | ⟨s3, h⟩
  · rw [h]
  · rw [h, wOpen_tmp room n _ s3 h1 h2]
/-- One entry is added, or not; the file grows by little. -/
theorem LS.one_more {room n x : Nat} {ss : Ds} {c : Wc} {r1 r2 : List (List Nat)} (h : LS room ss c n r1 r2) (e : EntI) (hx : (cat (r1 ++ r2)).length ≤ x) (hs : x + 2 * sumN [e] ≤ 262144) :
    ∃ r ss' c' rs, wAppend room n c [e] ss = (r, ss', c', n) ∧ LS room ss' c' n r1 (r2 ++ rs) ∧ (cat (r1 ++ (r2 ++ rs))).length ≤ x + 2 * sumN [e] := by
  cases hr : recsE [e] with
  | error y =>
    obtain ⟨r, q⟩ := wAppend_bad (room := room) (n := n) (ss := ss) (c := c) (.inl ⟨y, hr⟩)
    exact ⟨r, ss, c, [], q, by rw [List.append_nil]; exact h, by rw [List.append_nil]; omega⟩
  | ok b =>
    have hl := recsE_sum hr
    cases hfa : fitAllW c [e] with
    | false =>
      obtain ⟨r, q⟩ := wAppend_bad (room := room) (n := n) (ss := ss) (c := c) (.inr hfa)
      exact ⟨r, ss, c, [], q, by rw [List.append_nil]; exact h, by rw [List.append_nil]; omega⟩
    | true =>
      rcases h.append_ok hr hfa (by omega) with ⟨_, _, q⟩ | ⟨ss', q, ls'⟩
      · exact ⟨9, ss, c, [], q, by rw [List.append_nil]; exact h, by rw [List.append_nil]; omega⟩
      · refine ⟨0, ss', _, _, q, ls', ?_⟩
        have hc := recsE_cat hr
        rw [← List.append_assoc, cat_app, List.length_append, ← hc]
        omega
end Go.Proofs.YtijcpmbfhfppmaaGreatDoor
end
/- Logs, plainly: the two disks of WalSwitches. -/
section
namespace Go.Proofs.YtijcpmbfhfppmaaGreatDoor
open Go.ChangeShapes Go.WideShapes Go.ChangeAt Go.RowKit
set_option linter.unusedVariables false

/-- Compact: the log is written anew, or nothing has changed. -/
theorem compact_sw {room n : Nat} {ss : Ds} {c : Wc} {r1 r2 : List (List Nat)} (ok : WOk c) (ls : LS room ss c n r1 r2) (i : Int) :
    (∃ c' r1', wCompact room n c i ss = (0, [(walNm (n + 1), ⟨true, cat r1', []⟩)], c', n + 1) ∧ (c.bi : Int) < i ∧ LS room [(walNm (n + 1), ⟨true, cat r1', []⟩)] c' (n + 1) r1' []) ∨ (∃ r, r ≠ 0 ∧ wCompact room n c i ss = (r, ss, c, n)) ∨ (wCompact room n c i ss = (0, ss, c, n) ∧ ¬ (c.bi : Int) < i) := by
  rcases compact_plain ok ls i with ⟨ss', c', n', r1', hw, hlt, ls'⟩ | h | h
  · left
    obtain ⟨cs, hss, ha⟩ := ls'.fil
    have hn : n' = n + 1 ∧ ∃ c2 : Wc, ss' = [(walNm (n + 1), ⟨true, cat (allR c2), []⟩)] ∧ LS room [(walNm (n + 1), ⟨true, cat (allR c2), []⟩)] c' (n + 1) (allR c2) [] := by
      have hW : wCompact room n c i ss = (if (termW c i).2 = false then (2, ss, c, n) else if i = (c.bi : Int) then (0, ss, c, n) else wNew room n c ⟨i.toNat, (termW c i).1.toNat, c.ht, c.hv, c.es.drop (i.toNat - c.bi)⟩ ss) := rfl
      rw [hw] at hW
      by_cases h1 : (termW c i).2 = false
      · rw [if_pos h1] at hW
        exact absurd (show (0 : Nat) = 2 from congrArg Prod.fst hW) (by decide)
      · rw [if_neg h1, if_neg (by omega)] at hW
        have hr : (c.bi : Int) < i ∧ i ≤ ((c.bi + c.es.length : Nat) : Int) := by
          by_cases hq : (c.bi : Int) < i ∧ i ≤ ((c.bi + c.es.length : Nat) : Int)
          · exact hq
          · exfalso
            apply h1
            unfold termW
            rw [if_neg (by omega), if_neg hq]
        have ht : termW c i = (((c.es.getD (i - (c.bi : Int) - 1).toNat default).2.1 : Int), true) := by
          unfold termW
          rw [if_neg (by omega), if_pos hr]
        obtain ⟨k, rfl⟩ : ∃ k : Nat, i = (k : Int) := ⟨i.toNat, by omega⟩
        obtain ⟨ok2, ix2, _⟩ := comp_ok ok ls.ix (show c.bi < k by omega) (show k ≤ c.bi + c.es.length by omega) (show (termW c (k : Int)).1 = _ by rw [ht])
        rw [Int.toNat_natCast] at hW
        unfold wNew at hW
        rcases ls.anew ok2 ix2 with ⟨x, h0, hx⟩ | ⟨_, _, hx, ls2⟩
        · rw [hx, if_pos h0] at hW
          exact absurd (congrArg Prod.fst hW).symm h0
        · rw [hx, if_neg (by simp)] at hW
          simp only [Prod.mk.injEq, true_and] at hW
          obtain ⟨e1, e2, e3⟩ := hW
          rw [e2]
          exact ⟨e3, _, e1, ls2⟩
    obtain ⟨rfl, c2, rfl, ls2⟩ := hn
    exact ⟨c', allR c2, hw, hlt, ls2⟩
  · exact .inr (.inl h)
  · exact .inr (.inr h)
/-- A log's disk, on another one. -/
theorem LS.else_ {room n : Nat} {c : Wc} {rs : List (List Nat)} {s : Ds} (h : LS room s c n rs []) (R : Nat) (hR : (cat rs).length ≤ R) : wOpen R [(walNm n, ⟨true, cat rs, []⟩)] = (0, [(walNm n, ⟨true, cat rs, []⟩)], some (c, n)) ∧ LS R [(walNm n, ⟨true, cat rs, []⟩)] c n rs [] := by
  have h1 := LS.one (room := R) h.n1 h.n2 (show contR rs = some c by have := h.cont; rwa [List.append_nil] at this) (fun r hr => h.len r (by rw [List.append_nil]; exact hr)) hR
  have h2 := h1.again
  rw [List.append_nil] at h2
  exact h2
theorem getS_12 (s : Sp) : getS (walNm 2) [(walNm 1, s)] = none := getS_not (fun e => by have := walNm_inj (by omega) (by omega) e; omega) _
theorem putF_12 (s v : Sp) : putF (walNm 2) v [(walNm 1, s)] = [(walNm 1, s), (walNm 2, v)] := by
  unfold putF
  rw [if_pos wal12]
  rfl
theorem dWrite_12 (room : Nat) (a b : List Nat) (hb : b.length ≤ 262144) (hr : a.length + b.length ≤ room) : dWrite room (walNm 2) 0 b [(walNm 1, ⟨true, a, []⟩)] = (0, [(walNm 1, ⟨true, a, []⟩), (walNm 2, wrote sp0 0 b)]) := by
  have e0 : (((none : Option Sp).getD sp0).now.length : Int) = 0 := rfl
  have hu : usedS [(walNm 1, (⟨true, a, []⟩ : Sp))] = a.length := used_one _ _
  unfold dWrite
  rw [if_neg (by rw [walNm_ok 2 (by omega)]; simp), getS_12, if_neg (by rw [e0]; omega), if_neg (by
    rintro (⟨_, h⟩ | h)
    · simp at h
    · omega), if_neg (by rw [e0, hu]; omega), putF_12]
  rfl
theorem rises_12 (s v : Sp) : Rises [(walNm 1, s), (walNm 2, v)] := by
  unfold Rises
  simp [wal12]
theorem dSync_12 (a b : List Nat) : dSync (walNm 2) [(walNm 1, ⟨true, a, []⟩), (walNm 2, wrote sp0 0 b)] = (0, [(walNm 1, ⟨true, a, []⟩), (walNm 2, ⟨true, b, []⟩)]) := by
  unfold dSync
  rw [getS_mem (rises_12 _ _) (by simp : (walNm 2, wrote sp0 0 b) ∈ [(walNm 1, (⟨true, a, []⟩ : Sp)), (walNm 2, wrote sp0 0 b)])]
  dsimp only
  rw [now_wrote]
  have := putF_mid (v := (⟨true, b, []⟩ : Sp)) [(walNm 1, (⟨true, a, []⟩ : Sp))] [] (rises_12 (⟨true, a, []⟩ : Sp) (wrote sp0 0 b))
  exact congrArg (fun l => (0, l)) this
theorem crash_12 (ks : List Int) (a b : List Nat) : crashS ks 0 [(walNm 1, ⟨true, a, []⟩), (walNm 2, ⟨true, b, []⟩)] = [(walNm 1, ⟨true, a, []⟩), (walNm 2, ⟨true, b, []⟩)] := rfl
/-- What a log's own file holds, as its disk tells it. -/
theorem LS.file {n : Nat} {rs : List (List Nat)} : nowL (walNm n) [(walNm n, (⟨true, cat rs, []⟩ : Sp))] = cat rs := by
  unfold nowL
  rw [getS_one]
  rfl
end Go.Proofs.YtijcpmbfhfppmaaGreatDoor
end
/- Logs: the walk of WalSwitches, up to the compaction. -/
section
namespace Go.Proofs.YtijcpmbfhfppmaaGreatDoor.walSwitches
open Go.ChangeShapes Go.WideShapes Go.ChangeAt Go.RowKit
set_option linter.unusedVariables false

/-- Entries as an argument. -/
structure EnAt (w : World) (a : Option Addr) (es : List EntI) : Prop where
  at_ : EntsAt w a es
  bd : ∀ e ∈ es, EntBd e
/-- The log while entries are added. -/
def Js (V0 wr : World) (L d M x y : Nat) : Prop := ∃ c ss r2 N ep ec hs, WAt (fun _ => False) V0.heap.size wr L d M 262144 N ss c 1 ep ec hs ∧ LS 262144 ss c 1 (allR wc0) r2 ∧ (cat (allR wc0 ++ r2)).length ≤ x ∧ N ≤ y ∧ Below V0.heap.size V0 wr
/-- A state in a block, with its entries; bytes in blocks; all that stays whatever comes later. -/
structure StAt (w : World) (E : Nat) (c : Wc) (sp : Option Addr) (k : Nat) : Prop where
  row : w.heap[E]? = some (.cells #[.int .i64 (c.bi : Int), .int .i64 (c.bt : Int), .int .i64 (c.ht : Int), .int .i64 (c.hv : Int), .slice sp c.es.length k] 53 (0, 0))
  en : EntsAt w sp (c.es.map toI)
  le : c.es.length ≤ 9223372036854775807
theorem StAt.later {w w' : World} {E : Nat} {c : Wc} {sp : Option Addr} {k : Nat} (h : StAt w E c sp k) (u : Below w.heap.size w w') : StAt w' E c sp k := ⟨later_block u h.row, h.en.later u, h.le⟩
/-- The second half's first disk: the elder log, and wal.tmp torn. -/
structure Two (w : World) (R F : List (List Nat)) (c c' : Wc) (E1 E2 : Nat) (s1 s2 : Option Addr) (k1 k2 : Nat) (op fp : Option Addr) (on fn : Nat) : Prop where
  tz : Tz w
  a1 : StAt w E1 c s1 k1
  a2 : StAt w E2 c' s2 k2
  ol : (cat R).length = on
  fl : (cat F).length = fn
  ob : BytesAt w op (cat R)
  fb : BytesAt w fp (cat F)
  oz : op = none → on = 0
  fz : fp = none → fn = 0
  o2 : on ≤ 262144
  f2 : fn ≤ 262144
  l1 : ∃ s, LS 262144 s c 1 R []
  l2 : ∃ s, LS 262144 s c' 2 F []
theorem Two.later {w w' : World} {R F : List (List Nat)} {c c' : Wc} {E1 E2 : Nat} {s1 s2 : Option Addr} {k1 k2 : Nat} {op fp : Option Addr} {on fn : Nat} (h : Two w R F c c' E1 E2 s1 s2 k1 k2 op fp on fn) (u : Below w.heap.size w w') : Two w' R F c c' E1 E2 s1 s2 k1 k2 op fp on fn :=
  ⟨h.tz.later u, h.a1.later u, h.a2.later u, h.ol, h.fl, h.ob.later u, h.fb.later u, h.oz, h.fz, h.o2, h.f2, h.l1, h.l2⟩
theorem bytes_lt {w : World} {a : Option Addr} {l : List Nat} (h : BytesAt w a l) (b off : Nat) (e : a = some ⟨b, off, none⟩) (h0 : 0 < l.length) : b < w.heap.size := by
  obtain ⟨b', off', e', hc⟩ := h.cell 0 h0
  rw [e] at e'
  cases e'
  by_cases hb : b < w.heap.size
  · exact hb
  · unfold World.cell? at hc
    simp only [Array.getElem?_eq_none (Nat.not_lt.1 hb)] at hc
    cases hc
theorem w64z : w64 0 := ⟨by omega, by omega⟩
theorem sumN_one (e : EntI) : sumN [e] = 20 + min e.2.2.2.length 6000 := by simp [sumN]
theorem sumN_mono (es : List EntI) (j : Nat) : sumN (es.take j) ≤ sumN es := by
  have h := congrArg sumN (List.take_append_drop j es)
  have : sumN (es.take j ++ es.drop j) = sumN (es.take j) + sumN (es.drop j) := by unfold sumN; rw [List.map_append, List.sum_append]
  omega
theorem begin_len : (cat (allR wc0)).length = 22 := by kernel_rfl
theorem name_list (n : Nat) : (str (walNm n)).data.toList = walNm n := rfl
theorem name_le (n : Nat) (h : n ≤ 1099511627776) : (str (walNm n)).size ≤ maxLen := nm_size n h
/-- Three numbers in a block. -/
theorem ints3 {W : World} {E : Nat} {k : Int} (h : W.heap[E]? = some (.cells #[.int .i64 k, .int .i64 k, .int .i64 k] 3 (0, 0))) (hk : -9223372036854775808 ≤ k ∧ k ≤ 9223372036854775807) : IntsAt W (some ⟨E, 0, none⟩) [k, k, k] := by
  refine ⟨fun x hx => ?_, fun i hi => ⟨E, 0, rfl, ?_⟩⟩
  · simp at hx
    rw [hx]
    exact hk
  · simp only [List.length_cons, List.length_nil] at hi
    match i, hi with
    | 0, _ => exact box_cell h 0 _ rfl
    | 1, _ => exact box_cell h 1 _ rfl
    | 2, _ => exact box_cell h 2 _ rfl
end Go.Proofs.YtijcpmbfhfppmaaGreatDoor.walSwitches
end
