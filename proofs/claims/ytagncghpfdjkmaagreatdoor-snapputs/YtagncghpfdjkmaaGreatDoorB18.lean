/- Plain: a frame one byte of whose sum or of what it holds is another one is known by its sum. -/
import Derived.Test.YtagncghpfdjkmaaGreatDoorB16
import Derived.Test.YtagncghpfdjkmaaGreatDoorB17
import Derived.Test.YtagncghpfdjkmaaGreatDoorB11
section
namespace Go.Proofs.YtagncghpfdjkmaaGreatDoor

theorem num4_inj {a b : List Nat} (ha : ∀ c ∈ a, c < 256) (hb : ∀ c ∈ b, c < 256) (h : num4 a = num4 b) (i : Nat) (hi : i < 4) : a.getD i 0 = b.getD i 0 := by
  have a0 := getD_lt ha 0
  have a1 := getD_lt ha 1
  have a2 := getD_lt ha 2
  have a3 := getD_lt ha 3
  have b0 := getD_lt hb 0
  have b1 := getD_lt hb 1
  have b2 := getD_lt hb 2
  have b3 := getD_lt hb 3
  unfold num4 at h
  match i, hi with
  | 0, _ => omega
  | 1, _ => omega
  | 2, _ => omega
  | 3, _ => omega
theorem split_at (l : List Nat) (j : Nat) (hj : j < l.length) : l = l.take j ++ l.getD j 0 :: l.drop (j + 1) := by
  have e : l.getD j 0 = l[j] := by rw [List.getD_eq_getElem?_getD, List.getElem?_eq_getElem hj]; rfl
  rw [e]
  have h1 := (List.take_append_drop j l).symm
  rw [List.drop_eq_getElem_cons hj] at h1
  exact h1
theorem set_at (l : List Nat) (j y : Nat) (hj : j < l.length) : l.set j y = l.take j ++ y :: l.drop (j + 1) := by
  rw [List.set_eq_take_append_cons_drop, if_pos hj]
theorem mem_set {l : List Nat} {j y : Nat} (h : ∀ c ∈ l, c < 256) (hy : y < 256) : ∀ c ∈ l.set j y, c < 256 := by
  intro c hc
  rcases List.mem_or_eq_of_mem_set hc with h1 | h1
  · exact h c h1
  · omega

/-- What Next answers at the beginning of bytes that open as a frame does. -/
theorem nextE_parts (n : Nat) (s4 l rest : List Nat) (hn : n ≤ 65536) (h4 : s4.length = 4) (hl : l.length = n) :
    nextE (word4 n ++ (s4 ++ (l ++ rest))) 0 = if Crc.ext (Crc.ext 0 (word4 n)) l = num4 (s4 ++ (l ++ rest)) then 0 else 5 := by
  have d4 : (word4 n ++ (s4 ++ (l ++ rest))).drop 4 = s4 ++ (l ++ rest) := by
    conv => lhs; rw [← word4_length n]
    rw [List.drop_left]
  have d8 : (word4 n ++ (s4 ++ (l ++ rest))).drop 8 = l ++ rest := by
    rw [show 8 = 4 + 4 from rfl, ← List.drop_drop, d4]
    conv => lhs; rw [← h4]
    rw [List.drop_left]
  have t4 : (word4 n ++ (s4 ++ (l ++ rest))).take 4 = word4 n := by
    conv => lhs; rw [← word4_length n]
    rw [List.take_left]
  have hlen : (word4 n ++ (s4 ++ (l ++ rest))).length = 8 + n + rest.length := by
    simp only [List.length_append, word4_length, h4, hl]; omega
  have ht : (l ++ rest).take n = l := by rw [← hl, List.take_left]
  unfold nextE
  simp only [Nat.zero_add, List.drop_zero]
  rw [num4_word4, t4, d8, d4, ht, hlen, if_neg (by omega), if_neg (by omega), if_neg (by omega)]

theorem turned_next (l : List Nat) (q y : Nat) (hl : l.length ≤ 65536) (hlt : ∀ c ∈ l, c < 256) (hq : 4 + q < 8 + l.length) (hy : y < 256) (hne : y ≠ (frameB l).getD (4 + q) 0) :
    nextE ((frameB l).set (4 + q) y) 0 = 5 := by
  have hs := fsum_lt l.length l
  have hws := word4_lt _ hs
  by_cases hq4 : q < 4
  · have e : (frameB l).set (4 + q) y = word4 l.length ++ ((word4 (fsum l.length l)).set q y ++ (l ++ [])) := by
      rw [frameB, List.set_append, if_neg (by rw [word4_length]; omega), word4_length, show 4 + q - 4 = q by omega, List.set_append, if_pos (by rw [word4_length]; omega), List.append_nil]
    have e0 : (frameB l).getD (4 + q) 0 = (word4 (fsum l.length l)).getD q 0 := by
      rw [frameB, List.getD_eq_getElem?_getD, List.getElem?_append_right (by rw [word4_length]; omega), word4_length, show 4 + q - 4 = q by omega, List.getElem?_append_left (by rw [word4_length]; omega), List.getD_eq_getElem?_getD]
    have hp := nextE_parts l.length ((word4 (fsum l.length l)).set q y) l [] hl (by rw [List.length_set, word4_length]) (Eq.refl _)
    rw [e, hp, if_neg]
    intro h
    apply hne
    have h1 : Crc.ext (Crc.ext 0 (word4 l.length)) l = fsum l.length l := by rw [fsum]
    have h3 := (num4_word4 (fsum l.length l) (l ++ [])).trans (h1.symm.trans h)
    have h2 := num4_inj (a := word4 (fsum l.length l) ++ (l ++ [])) (b := (word4 (fsum l.length l)).set q y ++ (l ++ []))
      (by intro c hc; simp only [List.append_nil, List.mem_append] at hc; exact hc.elim (hws c) (hlt c))
      (by intro c hc; simp only [List.append_nil, List.mem_append] at hc; exact hc.elim (mem_set hws hy c) (hlt c)) h3 q hq4
    rw [e0]
    have w4 := word4_length (fsum l.length l)
    rw [List.getD_eq_getElem?_getD, List.getElem?_append_left (by omega), List.getD_eq_getElem?_getD, List.getElem?_append_left (by rw [List.length_set]; omega), List.getElem?_set, if_pos rfl, if_pos (by omega)] at h2
    rw [List.getD_eq_getElem?_getD, h2]
    rfl
  · have hj : q - 4 < l.length := by omega
    have e : (frameB l).set (4 + q) y = word4 l.length ++ (word4 (fsum l.length l) ++ (l.set (q - 4) y ++ [])) := by
      rw [frameB, List.set_append, if_neg (by rw [word4_length]; omega), word4_length, show 4 + q - 4 = q by omega, List.set_append, if_neg (by rw [word4_length]; omega), word4_length, List.append_nil]
    have e0 : (frameB l).getD (4 + q) 0 = l.getD (q - 4) 0 := by
      rw [frameB, List.getD_eq_getElem?_getD, List.getElem?_append_right (by rw [word4_length]; omega), word4_length, show 4 + q - 4 = q by omega, List.getElem?_append_right (by rw [word4_length]; omega), word4_length, List.getD_eq_getElem?_getD]
    rw [e, nextE_parts _ _ (l.set (q - 4) y) [] hl (word4_length _) (by rw [List.length_set]), num4_word4, if_neg]
    intro h
    apply hne
    rw [e0]
    have h1 : fsum l.length l = Crc.ext (Crc.ext 0 (word4 l.length)) l := by rw [fsum]
    rw [h1] at h
    unfold Crc.ext at h
    have hw := word4_lt l.length (by omega)
    have r0 := Crc.reg_lt (word4 l.length) (Crc.not32_lt 0) hw
    have h2 := Crc.not32_inj (Crc.reg_lt _ (Crc.not32_lt _) (mem_set hlt hy)) (Crc.reg_lt _ (Crc.not32_lt _) hlt) h
    rw [set_at l (q - 4) y hj] at h2
    generalize hR : Crc.not32 (Crc.not32 (Crc.reg (Crc.not32 0) (word4 l.length))) = R at h2
    have hRlt : R < 4294967296 := by rw [← hR]; exact Crc.not32_lt _
    have h3 : Crc.reg R (l.take (q - 4) ++ y :: l.drop (q - 4 + 1)) = Crc.reg R (l.take (q - 4) ++ l.getD (q - 4) 0 :: l.drop (q - 4 + 1)) := by
      rw [← split_at l (q - 4) hj]; exact h2
    exact Crc.reg_turned R (l.take (q - 4)) (l.drop (q - 4 + 1)) y (l.getD (q - 4) 0) hRlt (fun c hc => hlt c (List.mem_of_mem_take hc)) (fun c hc => hlt c (List.mem_of_mem_drop hc)) hy (getD_lt hlt _) h3
end Go.Proofs.YtagncghpfdjkmaaGreatDoor
end
/- Snapshots, plainly: there and back. -/
section
namespace Go.Proofs.YtagncghpfdjkmaaGreatDoor
open Go.ChangeShapes Go.WideShapes Go.ChangeAt Go.RowKit
set_option linter.unusedVariables false

theorem snE_may {s : Sn} (h : snE s = 0) : (1 ≤ s.i ∧ s.i ≤ 1099511627776) ∧ (1 ≤ s.t ∧ s.t ≤ 1099511627776) ∧ rightM s.v s.l = true ∧ s.d.length ≤ 16384 := by
  unfold snE at h
  split at h
  · rename_i h1
    split at h
    · cases h
    · exact ⟨h1.1, h1.2.1, h1.2.2, by omega⟩
  · cases h
theorem snE_zero {s : Sn} (h1 : 1 ≤ s.i ∧ s.i ≤ 1099511627776) (h2 : 1 ≤ s.t ∧ s.t ≤ 1099511627776) (h3 : rightM s.v s.l = true) (h4 : s.d.length ≤ 16384) : snE s = 0 := by
  unfold snE
  rw [if_pos ⟨h1, h2, h3⟩, if_neg (by omega)]
theorem listB_len (l : List Int) : (listB l).length = 1 + l.length := by unfold listB; simp; omega
theorem mem_len {v l : List Int} (h : rightM v l = true) : (listB v ++ listB l).length ≤ 20 := by
  obtain ⟨_, _, h1, h2, _⟩ := right_parts h
  rw [List.length_append, listB_len, listB_len]
  omega
theorem mem_lt {v l : List Int} (h : rightM v l = true) : ∀ c ∈ listB v ++ listB l, c < 256 := by
  obtain ⟨_, _, h1, h2, _⟩ := right_parts h
  obtain ⟨i1, i2⟩ := right_in h
  intro c hc
  unfold listB at hc
  rcases List.mem_append.1 hc with hc | hc
  all_goals
    rcases List.mem_cons.1 hc with rfl | hc
    · omega
    · obtain ⟨x, hx, rfl⟩ := List.mem_map.1 hc
      first
        | (have := i1 x hx; omega)
        | (have := i2 x hx; omega)
theorem snI_len {s : Sn} (h : snE s = 0) : (snI s).length ≤ 16428 := by
  obtain ⟨h1, h2, h3, h4⟩ := snE_may h
  have m := mem_len h3
  have n1 := numB_six s.i.toNat (by omega)
  have n2 := numB_six s.t.toNat (by omega)
  have n3 := numB_six (listB s.v ++ listB s.l).length (by omega)
  have n4 := numB_six s.d.length (by omega)
  unfold snI inB
  simp only [List.length_append] at *
  omega
theorem snI_lt {s : Sn} (h : snE s = 0) (hd : ∀ c ∈ s.d, c < 256) : ∀ c ∈ snI s, c < 256 := by
  obtain ⟨h1, h2, h3, h4⟩ := snE_may h
  intro c hc
  unfold snI inB at hc
  rcases List.mem_append.1 hc with hc | hc
  · exact numB_lt _ c hc
  rcases List.mem_append.1 hc with hc | hc
  · exact numB_lt _ c hc
  rcases List.mem_append.1 hc with hc | hc
  · exact numB_lt _ c hc
  rcases List.mem_append.1 hc with hc | hc
  · exact mem_lt h3 c hc
  rcases List.mem_append.1 hc with hc | hc
  · exact numB_lt _ c hc
  · exact hd c hc
theorem drop_take_app {α : Type} (l : List α) (k n : Nat) : l.drop k = (l.drop k).take n ++ l.drop (k + n) := by
  rw [← List.drop_drop, List.take_append_drop]
theorem snG_back {h : List Nat} (hb : ∀ c ∈ h, c < 256) {s : Sn} (e : snG h = .ok s) : snE s = 0 ∧ snI s = h := by
  unfold snG at e
  cases t1 : takeE h 0 with
  | error x => rw [t1] at e; cases e
  | ok q =>
    obtain ⟨i, k1⟩ := q
    rw [t1] at e
    dsimp only at e
    split at e
    · cases e
    rename_i hi
    cases t2 : takeE h k1 with
    | error x => rw [t2] at e; cases e
    | ok q =>
      obtain ⟨t, k2⟩ := q
      rw [t2] at e
      dsimp only at e
      split at e
      · cases e
      rename_i ht
      cases t3 : takeE h k2 with
      | error x => rw [t3] at e; cases e
      | ok q =>
        obtain ⟨n, k3⟩ := q
        rw [t3] at e
        dsimp only at e
        split at e
        · cases e
        rename_i hn
        cases g : getE ((h.drop k3).take n) with
        | error x => rw [g] at e; cases e
        | ok q =>
          obtain ⟨v, l⟩ := q
          rw [g] at e
          dsimp only at e
          cases t4 : takeE h (k3 + n) with
          | error x => rw [t4] at e; cases e
          | ok q =>
            obtain ⟨z, k4⟩ := q
            rw [t4] at e
            dsimp only at e
            split at e
            · cases e
            split at e
            · cases e
            split at e
            · cases e
            rename_i hz hs hl
            cases e
            obtain ⟨d1, e1, l1, n1⟩ := takeE_back hb t1
            obtain ⟨d2, e2, l2, n2⟩ := takeE_back hb t2
            obtain ⟨d3, e3, l3, n3⟩ := takeE_back hb t3
            obtain ⟨d4, e4, l4, n4⟩ := takeE_back hb t4
            obtain ⟨hr, hm⟩ := get_back (fun c hc => hb c (List.mem_of_mem_drop (List.mem_of_mem_take hc))) g
            have hzl : ((h.drop k4).take z) = h.drop k4 := List.take_of_length_le (by rw [List.length_drop]; omega)
            have hdl : (h.drop k4).length = z := by rw [List.length_drop]; omega
            refine ⟨snE_zero (by dsimp only; omega) (by dsimp only; omega) hr (by dsimp only; rw [hzl, hdl]; omega), ?_⟩
            unfold snI
            dsimp only
            rw [hzl, hm, Int.toNat_natCast, Int.toNat_natCast]
            unfold inB
            rw [show ((h.drop k3).take n).length = n by rw [List.length_take, List.length_drop]; omega, hdl, ← d4, ← drop_take_app h k3 n, ← d3, ← d2, ← d1, List.drop_zero]
theorem word_num {l : List Nat} (hl : ∀ c ∈ l, c < 256) (h4 : l.length = 4) : word4 (num4 l) = l := by
  match l, h4 with
  | [a, b, c, d], _ =>
    have ha := hl a (by simp)
    have hb := hl b (by simp)
    have hc := hl c (by simp)
    have hd := hl d (by simp)
    simp only [word4, num4, List.getD_cons_zero, List.getD_cons_succ]
    refine List.cons_eq_cons.2 ⟨by omega, List.cons_eq_cons.2 ⟨by omega, List.cons_eq_cons.2 ⟨by omega, List.cons_eq_cons.2 ⟨by omega, rfl⟩⟩⟩⟩
/-- Bytes that are one frame are just that frame's. -/
theorem frame_back {l : List Nat} (hl : ∀ c ∈ l, c < 256) (h0 : nextE l 0 = 0) (h1 : ¬ 8 + (nextH l 0).length < l.length) : frameB (nextH l 0) = l ∧ (nextH l 0).length ≤ 65536 := by
  obtain ⟨z1, z2, z3⟩ := nextE_zero h0
  have hlen : l.length = 8 + (nextH l 0).length := by omega
  have hx : nextE l 0 = 0 := h0
  unfold nextE at hx
  rw [if_neg (by omega)] at hx
  split at hx
  · cases hx
  rename_i hbig
  split at hx
  · cases hx
  split at hx
  · rename_i hc
    have hH : nextH l 0 = l.drop 8 := by
      unfold nextH
      rw [Nat.zero_add]
      refine List.take_of_length_le ?_
      rw [List.length_drop]
      rw [z2] at hlen
      omega
    rw [List.drop_zero] at *
    refine ⟨?_, by omega⟩
    have w1 : word4 (nextH l 0).length = l.take 4 := by
      rw [z2, ← num4_take]
      exact word_num (fun c hc => hl c (List.mem_of_mem_take hc)) (by rw [List.length_take]; omega)
    have hT : (l.drop (0 + 8)).take (num4 l) = nextH l 0 := by unfold nextH; rw [List.drop_zero]
    rw [hT] at hc
    have w2 : word4 (fsum (nextH l 0).length (nextH l 0)) = (l.drop 4).take 4 := by
      unfold fsum
      rw [w1, hc, Nat.zero_add, ← num4_take]
      exact word_num (fun c hc => hl c (List.mem_of_mem_drop (List.mem_of_mem_take hc))) (by rw [List.length_take, List.length_drop]; omega)
    unfold frameB
    rw [w1, w2, hH]
    have : (l.drop 4).take 4 ++ l.drop 8 = l.drop 4 := (drop_take_app l 4 4).symm
    rw [this, List.take_append_drop]
  · cases hx
theorem snL_back {l : List Nat} (hl : ∀ c ∈ l, c < 256) {s : Sn} (e : snL l = .ok s) : snE s = 0 ∧ snB s = l := by
  unfold snL at e
  split at e
  · cases e
  split at e
  · cases e
  rename_i h0 h1
  obtain ⟨f1, _⟩ := frame_back hl (Decidable.not_not.1 h0) h1
  obtain ⟨g1, g2⟩ := snG_back (nextH_lt hl 0) e
  refine ⟨g1, ?_⟩
  unfold snB
  rw [if_pos g1, g2, f1]
end Go.Proofs.YtagncghpfdjkmaaGreatDoor
end
/- Snapshots in memory; the program's Put. -/
section
namespace Go.Proofs.YtagncghpfdjkmaaGreatDoor
open Go.ChangeShapes Go.WideShapes Go.ChangeAt Go.RowKit
set_option linter.unusedVariables false

/-- Where a snapshot's rows lie. -/
structure SnH where
  va : Option Addr
  vc : Nat
  la : Option Addr
  lc : Nat
  dp : Option Addr
  dc : Nat
def snRow (s : Sn) (h : SnH) : Array Value := #[.int .i64 s.i, .int .i64 s.t, .slice h.va s.v.length h.vc, .slice h.la s.l.length h.lc, .slice h.dp s.d.length h.dc]
structure SnAt (w : World) (s : Sn) (h : SnH) : Prop where
  bi : -9223372036854775808 ≤ s.i ∧ s.i ≤ 9223372036854775807
  bt : -9223372036854775808 ≤ s.t ∧ s.t ≤ 9223372036854775807
  v : IntsAt w h.va s.v
  l : IntsAt w h.la s.l
  d : BytesAt w h.dp s.d
  vn : s.v.length ≤ maxLen
  ln : s.l.length ≤ maxLen
  dn : s.d.length ≤ h.dc
  dm : h.dc ≤ maxLen
  dz : h.dp = none → h.dc = 0
theorem SnAt.later {w w' : World} {s : Sn} {h : SnH} (z : SnAt w s h) (u : Below w.heap.size w w') : SnAt w' s h := ⟨z.bi, z.bt, z.v.later u, z.l.later u, z.d.later u, z.vn, z.ln, z.dn, z.dm, z.dz⟩
theorem bytesLt {w : World} {a : Option Addr} {l : List Nat} (h : BytesAt w a l) : ∀ b off, a = some ⟨b, off, none⟩ → 0 < l.length → b < w.heap.size := fun b off e h0 => by
  obtain ⟨b', off', e', hc⟩ := h.cell 0 h0
  rw [e] at e'
  cases e'
  exact cell_lt hc
theorem isPos_yes (n : Int) (w : World) (h : 1 ≤ n ∧ n ≤ 1099511627776) : Calls Tryz.prog 50 #[.int .i64 n] w fun e w' => e = .returned (.bool true) ∧ w' = w := by
  obtain ⟨h1, h2⟩ := h
  go_enter Tryz.func50, Tryz.ntmps50
  go_wp2
  go_ret
  exact ⟨rfl, rfl⟩
theorem isPos_no (n : Int) (w : World) (h : ¬ (1 ≤ n ∧ n ≤ 1099511627776)) : Calls Tryz.prog 50 #[.int .i64 n] w fun e w' => e = .returned (.bool false) ∧ w' = w := by
  by_cases h1 : 1 ≤ n
  · have h2 : ¬ n ≤ 1099511627776 := fun h2 => h ⟨h1, h2⟩
    clear h
    go_enter Tryz.func50, Tryz.ntmps50
    go_wp2
    go_ret
    exact ⟨rfl, rfl⟩
  · clear h
    go_enter Tryz.func50, Tryz.ntmps50
    go_wp2
    go_ret
    exact ⟨rfl, rfl⟩
section
variable {w : World} {sp : Option Addr} {c : Nat} {b : List Nat}
set_option maxHeartbeats 2000000 in
theorem saddNumber_calls (base n0 k : Nat) (hn0 : b.length = n0) (hown : OwnB base w sp c b) (hb : b.length ≤ 100000) (hk : k ≤ 1099511627776) (hbase : base ≤ w.heap.size) :
    Calls Tryz.prog 52 #[.slice sp n0 c, .int .i64 (k : Int)] w fun e w' => ∃ sp' n' c', e = .returned (.slice sp' n' c') ∧ Hid ((b ++ numB k).length = n') ∧ OwnB base w' sp' c' (b ++ numB k) ∧ Below base w w' := by
  have H := hide hown
  have N0 := hide hn0
  have HB := hide hb
  have SX := hide (numB_six k hk)
  clear hown hn0 hb
  go_enter Tryz.func52, Tryz.ntmps52
  go_wp2_with fail
  refine (number_yes k w hk).mono ?_
  rintro e w1 ⟨xp, m, xc, rfl, hm, hx, b1⟩
  have O1 := hide ((unhide H).later b1)
  have X1 := hide hx
  have B1 := hide b1
  have HM := hide (unhide hm)
  clear hx b1
  go_wp2_with (at_builtin; refine wpList_append8 rfl (.tmp 12) (.tmp 13) rfl base sp n0 c b rfl (unhide N0) (by exact unhide O1) xp m xc rfl (numB k) (unhide HM) (by exact (unhide X1).bytes) (by exact (unhide X1).nil0) (by have := unhide HB; have h2 := unhide HM; have h3 := unhide SX; omega) (by exact Nat.le_trans hbase (unhide B1).size) ?_; intro sp' n' c' w' hn' ho' hg' hb')
  go_ret
  exact ⟨sp', n', c', rfl, hn', ho', ((unhide B1).mono hbase).trans hb'⟩
set_option maxHeartbeats 2000000 in
theorem addPart_calls (base n0 : Nat) (hn0 : b.length = n0) (hown : OwnB base w sp c b) (hb : b.length ≤ 60000) (hbase : base ≤ w.heap.size) (xp : Option Addr) (m xc : Nat) (x : List Nat) (hm : x.length = m) (hx : BytesAt w xp x) (hz : xp = none → xc = 0) (hlo : ∀ g o, xp = some ⟨g, o, none⟩ → 0 < x.length → g < base) (hm2 : m ≤ 60000) :
    Calls Tryz.prog 54 #[.slice sp n0 c, .slice xp m xc] w fun e w' => ∃ sp' n' c', e = .returned (.slice sp' n' c') ∧ Hid ((b ++ (numB m ++ x)).length = n') ∧ OwnB base w' sp' c' (b ++ (numB m ++ x)) ∧ Below base w w' := by
  have AC := hide (saddNumber_calls base n0 m hn0 hown (by omega) (by omega) hbase)
  have HX := hide hx
  have HM := hide hm
  have HZ := hide hz
  have LO := hide hlo
  have HB := hide hb
  have SX := hide (numB_six m (by omega))
  clear hown hn0 hb hx hm hz hlo
  go_enter Tryz.func54, Tryz.ntmps54
  go_wp2_with fail
  go_at_call 52
  refine (unhide AC).mono ?_
  rintro e w1 ⟨sp1, n1, c1, rfl, hn1, ho1, b1⟩
  have O1 := hide ho1
  have B1 := hide b1
  have X1 := hide (show BytesAt w1 xp x from ⟨(unhide HX).lt, fun i hi => by
    obtain ⟨g, o, e, hc⟩ := (unhide HX).cell i hi
    exact ⟨g, o, e, (b1.cell (p := ⟨g, o + i, none⟩) (unhide LO g o e (by omega))).trans hc⟩⟩)
  have N1 := hide (unhide hn1)
  clear ho1 b1 hn1
  go_wp2_with (at_builtin; refine wpList_append8 rfl (.tmp 8) (.tmp 9) rfl base sp1 n1 c1 (b ++ numB m) rfl (unhide N1) (by exact unhide O1) xp m xc rfl x (unhide HM) (by exact unhide X1) (unhide HZ) (by have := unhide HB; have h3 := unhide SX; rw [List.length_append]; omega) (by exact Nat.le_trans hbase (unhide B1).size) ?_; intro sp' n' c' w' hn' ho' hg' hb')
  go_ret
  rw [List.append_assoc] at hn' ho'
  exact ⟨sp', n', c', rfl, hn', ho', (unhide B1).trans hb'⟩
end
/-- How Put ends. -/
def PutS (s : Sn) (w : World) (e : Ending) (w' : World) : Prop := Below w.heap.size w w' ∧ ((snE s ≠ 0 ∧ e = .returned (.tuple #[.slice none 0 0, .int .i64 (snE s : Int)])) ∨
  (snE s = 0 ∧ ∃ g n, e = .returned (.tuple #[.slice (some ⟨g, 0, none⟩) n n, .int .i64 0]) ∧ (snB s).length = n ∧ OwnB w.heap.size w' (some ⟨g, 0, none⟩) n (snB s)))
end Go.Proofs.YtagncghpfdjkmaaGreatDoor
end
