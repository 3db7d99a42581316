/- Plane: the route of a host and a path, by the document. -/
import Derived.Test.YtcmiappiocfbiaaGreatDoorPag2
namespace Go.Proofs.YtcmiappiocfbiaaGreatDoor
open Go.ChangeShapes Go.WideShapes Go.ChangeAt Go.RowKit

theorem bestN_no (ho q : ByteArray) (l : List Rt) : ∀ n, bestN ho q l n = none → ∀ i, i < n → okR ho q (l.getD i rt0) = false
  | 0, _, i, hi => by omega
  | n + 1, h, i, hi => by
    unfold bestN at h
    by_cases hk : okR ho q (l.getD n rt0) = true
    · rw [if_pos hk] at h
      cases hb : bestN ho q l n with
      | none => rw [hb] at h; cases h
      | some b' => rw [hb] at h; simp only at h; split at h <;> cases h
    · rw [if_neg hk] at h
      rcases Nat.lt_or_ge i n with h1 | h1
      · exact bestN_no ho q l n h i h1
      · have : i = n := by omega
        subst this; simpa using hk
/-- It is one that fits, none is longer, and none ahead of it is as long. -/
theorem bestN_is (ho q : ByteArray) (l : List Rt) : ∀ n b, bestN ho q l n = some b → okR ho q (l.getD b rt0) = true ∧ (∀ i, i < n → okR ho q (l.getD i rt0) = true → (l.getD i rt0).p.size ≤ (l.getD b rt0).p.size) ∧ ∀ i, i < b → okR ho q (l.getD i rt0) = true → (l.getD i rt0).p.size < (l.getD b rt0).p.size
  | 0, b, h => by cases h
  | n + 1, b, h => by
    unfold bestN at h
    by_cases hk : okR ho q (l.getD n rt0) = true
    · rw [if_pos hk] at h
      cases hb : bestN ho q l n with
      | none =>
        rw [hb] at h
        cases h
        have hno := bestN_no ho q l n hb
        refine ⟨hk, fun i hi ho' => ?_, fun i hi ho' => ?_⟩
        · rcases Nat.lt_or_ge i n with h1 | h1
          · exact absurd ho' (by rw [hno i h1]; decide)
          · have : i = n := by omega
            subst this; exact Nat.le_refl _
        · exact absurd ho' (by rw [hno i hi]; decide)
      | some b' =>
        rw [hb] at h
        obtain ⟨a1, a2, a3⟩ := bestN_is ho q l n b' hb
        have hlt := bestN_lt ho q l n b' hb
        simp only at h
        split at h
        · rename_i hl
          cases h
          refine ⟨hk, fun i hi ho' => ?_, fun i hi ho' => ?_⟩
          · rcases Nat.lt_or_ge i n with h1 | h1
            · have := a2 i h1 ho'; omega
            · have : i = n := by omega
              subst this; exact Nat.le_refl _
          · have := a2 i hi ho'; omega
        · rename_i hl
          cases h
          refine ⟨a1, fun i hi ho' => ?_, a3⟩
          rcases Nat.lt_or_ge i n with h1 | h1
          · exact a2 i h1 ho'
          · have : i = n := by omega
            subst this; omega
    · rw [if_neg hk] at h
      obtain ⟨a1, a2, a3⟩ := bestN_is ho q l n b h
      refine ⟨a1, fun i hi ho' => ?_, a3⟩
      rcases Nat.lt_or_ge i n with h1 | h1
      · exact a2 i h1 ho'
      · have : i = n := by omega
        subst this; exact absurd ho' hk
/-- The first one of the greatest length. -/
theorem bestN_the (ho q : ByteArray) (l : List Rt) (n i m : Nat) (hi : i < n) (hok : okR ho q (l.getD i rt0) = true) (hm : (l.getD i rt0).p.size = m) (hall : ∀ k, k < n → okR ho q (l.getD k rt0) = true → (l.getD k rt0).p.size ≤ m) (hfst : ∀ k, k < i → okR ho q (l.getD k rt0) = true → (l.getD k rt0).p.size ≠ m) : bestN ho q l n = some i := by
  cases hb : bestN ho q l n with
  | none => exact absurd hok (by rw [bestN_no ho q l n hb i hi]; decide)
  | some b =>
    obtain ⟨a1, a2, a3⟩ := bestN_is ho q l n b hb
    have hlt := bestN_lt ho q l n b hb
    have h1 := a2 i hi hok
    have h2 := hall b hlt a1
    rcases Nat.lt_trichotomy b i with h | h | h
    · exact absurd (by omega) (hfst b h a1)
    · rw [h]
    · have := a3 i h hok; omega
theorem okR_len (ho q : ByteArray) (r : Rt) (h : okR ho q r = true) : r.p.size ≤ q.size := by
  unfold okR fitsL at h
  simp only [Bool.and_eq_true, List.isPrefixOf_iff_prefix] at h
  have := h.2.1.length_le
  rw [data_len, data_len] at this
  exact this
section
variable {w : World} {a : Option Addr} {l : List Rt}
set_option maxRecDepth 20000 in
set_option maxHeartbeats 8000000 in
theorem rfind_calls (h : RtsAt w a l) (n c : Nat) (hn : l.length = n) (hx : n ≤ maxLen) (ver : Int) (pa : Option Addr) (pn pc : Nat) (ho q : ByteArray) (hq : q.size ≤ maxLen) :
    Calls Tryz.prog 22 #[.agg #[.int .i64 ver, .slice a n c, .slice pa pn pc], .string ho, .string q] w fun e w' => e = .returned (findV l (bestN ho q l n)) ∧ Below w.heap.size w w' := by
  have H := hide h
  have HN := hide hn
  have HQ := hide hq
  simp only [maxLen] at hx hq
  clear h hn
  have b1 : Below w.heap.size w (w.alloc (.cells #[.int .i64 ver, .slice a n c, .slice pa pn pc] 28)) := (Below.refl _ _).alloc (Nat.le_refl _) _
  have b2 := b1.alloc b1.size (.cells #[.string ⟨#[]⟩, .string ⟨#[]⟩, .string ⟨#[]⟩] 65)
  have X1 := hide (show ((w.alloc (.cells #[.int .i64 ver, .slice a n c, .slice pa pn pc] 28)).alloc (.cells #[.string ⟨#[]⟩, .string ⟨#[]⟩, .string ⟨#[]⟩] 65)).heap[w.heap.size]? = some (.cells #[.int .i64 ver, .slice a n c, .slice pa pn pc] 28 (0, 0)) by rw [Below.heap_alloc _ _ _ (by simp)]; exact heap_new _ _)
  have B2 := hide b2
  have s1 : (w.alloc (.cells #[.int .i64 ver, .slice a n c, .slice pa pn pc] 28)).heap.size = w.heap.size + 1 := by simp
  have X2 := hide (show ((w.alloc (.cells #[.int .i64 ver, .slice a n c, .slice pa pn pc] 28)).alloc (.cells #[.string ⟨#[]⟩, .string ⟨#[]⟩, .string ⟨#[]⟩] 65)).heap[w.heap.size + 1]? = some (.cells #[.string ⟨#[]⟩, .string ⟨#[]⟩, .string ⟨#[]⟩] 65 (0, 0)) by rw [← s1]; exact heap_new _ _)
  clear b1 b2 s1
  go_enter Tryz.func22, Tryz.ntmps22
  go_wp2_with fail
  generalize ((w.alloc (.cells #[.int .i64 ver, .slice a n c, .slice pa pn pc] 28)).alloc (.cells #[.string ⟨#[]⟩, .string ⟨#[]⟩, .string ⟨#[]⟩] 65)) = W2 at *
  have k1 := fcell0 (unhide X1) 1 _ rfl
  have FZ := hide (show ∀ (W : World) (i : Nat), Below W2.heap.size W2 W → W.frozen? ⟨w.heap.size + 1, i, none⟩ = false from fun W i hb => by simp [World.frozen?, later_block hb (unhide X2)])
  have LT := hide (show ∀ W, Below W2.heap.size W2 W → w.heap.size + 1 < W.heap.size from fun W hb => Nat.lt_of_lt_of_le (Array.getElem?_eq_some_iff.1 (unhide X2)).1 hb.size)
  have SE := hide (show ∀ (W : World) (x y z : Value), Below W2.heap.size W2 W → (((W.setCell ⟨w.heap.size + 1, 0, none⟩ x).setCell ⟨w.heap.size + 1, 1, none⟩ y).setCell ⟨w.heap.size + 1, 2, none⟩ z).heap[w.heap.size + 1]? = some (.cells #[x, y, z] 65 (0, 0)) ∧ Below w.heap.size w (((W.setCell ⟨w.heap.size + 1, 0, none⟩ x).setCell ⟨w.heap.size + 1, 1, none⟩ y).setCell ⟨w.heap.size + 1, 2, none⟩ z) from fun W x y z hb => by
    have F := (unhide B2).trans (hb.mono (unhide B2).size)
    obtain ⟨a1, a2⟩ := set3 (x := x) (y := y) (z := z) (later_block hb (unhide X2))
    exact ⟨a1, F.grown a2 F.size (fun g hg => by have := Option.some.inj hg; omega)⟩)
  have SZ0 := hide (show ∀ (W : World), Below W2.heap.size W2 W → W.cell? ⟨w.heap.size + 1, 0, none⟩ = some (.string ⟨#[]⟩) ∧ W.cell? ⟨w.heap.size + 1, 1, none⟩ = some (.string ⟨#[]⟩) ∧ W.cell? ⟨w.heap.size + 1, 2, none⟩ = some (.string ⟨#[]⟩) from fun W hb => ⟨fcell0 (later_block hb (unhide X2)) 0 _ rfl, fcell0 (later_block hb (unhide X2)) 1 _ rfl, fcell0 (later_block hb (unhide X2)) 2 _ rfl⟩)
  go_loopw [8] (fun t wr => ∃ m : Nat, m ≤ q.size + 1 ∧ t = .int .i64 ((m : Int) - 1) ∧ Hid (∀ k, k < n → okR ho q (l.getD k rt0) = true → (l.getD k rt0).p.size < m) ∧ Hid (Below W2.heap.size W2 wr)) (fun t _ => ((intOf t) + 1).toNat)
  case atStart => exact ⟨q.size + 1, by omega, by first | rfl | (congr 1; omega), hide (fun k _ hk => Nat.lt_succ_of_le (okR_len ho q _ hk)), hide (Below.refl _ _)⟩
  case round =>
    obtain ⟨m, hm, rfl, ALL, B⟩ := hrel
    by_cases hm0 : m = 0
    · subst hm0
      have E := hide (show bestN ho q l n = none by
        cases hb : bestN ho q l n with
        | none => rfl
        | some b =>
          obtain ⟨a1, _⟩ := bestN_is ho q l n b hb
          have := unhide ALL b (bestN_lt ho q l n b hb) a1
          omega)
      obtain ⟨z0, z1, z2⟩ := unhide SZ0 wr (unhide B)
      have f0 := unhide FZ wr 0 (unhide B)
      have f1 := unhide FZ wr 1 (unhide B)
      have f2 := unhide FZ wr 2 (unhide B)
      go_wp2
      obtain ⟨a1, a2⟩ := unhide SE wr (.string ⟨#[]⟩) (.string ⟨#[]⟩) (.string ⟨#[]⟩) (unhide B)
      generalize (((wr.setCell ⟨w.heap.size + 1, 0, none⟩ (.string ⟨#[]⟩)).setCell ⟨w.heap.size + 1, 1, none⟩ (.string ⟨#[]⟩)).setCell ⟨w.heap.size + 1, 2, none⟩ (.string ⟨#[]⟩)) = W9 at *
      have g0 := fcell0 a1 0 _ rfl
      have g1 := fcell0 a1 1 _ rfl
      have g2 := fcell0 a1 2 _ rfl
      rw [unhide E]
      refine bodyPost_ret (v := findV l none) ?_ rfl ⟨rfl, a2⟩
      rw [results_cell_tmp rfl]
      go_simp
      rfl
    · obtain ⟨p, rfl⟩ : ∃ p, m = p + 1 := ⟨m - 1, by omega⟩
      have hp1 : (((p + 1 : Nat) : Int) - 1) = (p : Int) := by omega
      rw [hp1]
      clear hm0 hp1
      have hp0 : (0 : Int) ≤ (p : Int) := by omega
      go_wp2_with fail
      go_loopw [9] (fun t wr2 => ∃ j : Nat, j ≤ n ∧ t = .int .i64 (j : Int) ∧ Hid (∀ k, k < j → okR ho q (l.getD k rt0) = true → (l.getD k rt0).p.size ≠ p) ∧ Hid (Below W2.heap.size W2 wr2)) (fun t _ => n - (intOf t).toNat)
      case atStart => exact ⟨0, by omega, rfl, hide (fun k hk => by omega), B⟩
      case round =>
        obtain ⟨j, hj, rfl, NONE, B'⟩ := hrel
        have c1 := cell_later (unhide B') k1
        have F := hide ((unhide B2).trans ((unhide B').mono (unhide B2).size))
        by_cases hjn : j < n
        · have y0 : (0 : Int) ≤ (j : Int) := by omega
          have y1 : (j : Int) < (n : Int) := by omega
          have hjl : j < l.length := by rw [unhide HN]; exact hjn
          obtain ⟨b, off, rfl, q0, q1, q2⟩ := (unhide H).cell j hjl
          have p0 := cell_later (unhide F) q0
          have p1 := cell_later (unhide F) q1
          have p2 := cell_later (unhide F) q2
          have hsz := (unhide H).sz _ (List.getElem_mem hjl)
          have THE := hide (show okR ho q l[j] = true → l[j].p.size = p → bestN ho q l n = some j ∧ findV l (some j) = .tuple #[.agg #[.string l[j].h, .string l[j].p, .string l[j].l], .bool true] from fun h1 h2 => by
            refine ⟨bestN_the ho q l n j p hjn (by rw [rt_at l j hjl]; exact h1) (by rw [rt_at l j hjl]; exact h2) (fun k hk hok => by have := unhide ALL k hk hok; omega) (unhide NONE), ?_⟩
            rw [← rt_at l j hjl]
            rfl)
          have NX := hide (show ¬ (okR ho q l[j] = true ∧ l[j].p.size = p) → ∀ k, k < j + 1 → okR ho q (l.getD k rt0) = true → (l.getD k rt0).p.size ≠ p from fun hno k hk hok => by
            rcases Nat.lt_or_ge k j with h1 | h1
            · exact unhide NONE k h1 hok
            · have : k = j := by omega
              subst this
              rw [rt_at l k hjl] at hok ⊢
              exact fun e => hno ⟨hok, e⟩)
          generalize l[j] = r at *
          obtain ⟨rh, rp, rl⟩ := r
          simp only at p0 p1 p2 hsz THE NX
          have RF := hide (rfits_calls rp q hsz.2.1 (unhide HQ) (wr.alloc (.cells #[.string rh, .string rp, .string rl] 65)))
          have B3 := hide ((unhide B').alloc (unhide B').size (.cells #[.string rh, .string rp, .string rl] 65))
          have OK := hide (show okR ho q ⟨rh, rp, rl⟩ = ((rh.toList == ho.toList) && fitsL rp.data.toList q.data.toList) from rfl)
          clear q0 q1 q2 hsz
          cases hh : (rh.toList == ho.toList) with
          | false =>
            have N2 := hide (unhide NX (fun h => by rw [unhide OK, hh] at h; simp at h))
            clear NX THE OK RF
            go_wp2
            exact ⟨⟨j + 1, by omega, by go_num, N2, B3⟩, by simp [intOf]; omega⟩
          | true =>
            by_cases hl : rp.size = p
            · have y3 : (rp.size : Int) = (p : Int) := by omega
              cases hf : fitsL rp.data.toList q.data.toList with
              | false =>
                rw [hf] at RF
                have N2 := hide (unhide NX (fun h => by rw [unhide OK, hf] at h; simp at h))
                clear NX THE OK hl
                go_wp2_with (go_at_call 41; refine (unhide RF).mono ?_; rintro e w' ⟨rfl, rfl⟩)
                exact ⟨⟨j + 1, by omega, by go_num, N2, B3⟩, by simp [intOf]; omega⟩
              | true =>
                rw [hf] at RF
                obtain ⟨t1, t2⟩ := unhide THE (by rw [unhide OK, hh, hf]; rfl) hl
                have T1 := hide t1
                have T2 := hide t2
                obtain ⟨z0, z1, z2⟩ := unhide SZ0 _ (unhide B3)
                have f0 := unhide FZ _ 0 (unhide B3)
                have f1 := unhide FZ _ 1 (unhide B3)
                have f2 := unhide FZ _ 2 (unhide B3)
                have SX := hide (unhide SE _ (.string rh) (.string rp) (.string rl) (unhide B3))
                have e0 := fcell0 (heap_new wr (.cells #[.string rh, .string rp, .string rl] 65)) 0 _ rfl
                clear NX THE OK hl t1 t2
                go_wp2_with (go_at_call 41; refine (unhide RF).mono ?_; rintro e w' ⟨rfl, rfl⟩)
                obtain ⟨a1, a2⟩ := unhide SX
                generalize ((((wr.alloc (.cells #[.string rh, .string rp, .string rl] 65)).setCell ⟨w.heap.size + 1, 0, none⟩ (.string rh)).setCell ⟨w.heap.size + 1, 1, none⟩ (.string rp)).setCell ⟨w.heap.size + 1, 2, none⟩ (.string rl)) = W9 at *
                have g0 := fcell0 a1 0 _ rfl
                have g1 := fcell0 a1 1 _ rfl
                have g2 := fcell0 a1 2 _ rfl
                rw [unhide T1]
                refine bodyPost_ret (v := findV l (some j)) ?_ rfl ⟨rfl, a2⟩
                rw [results_cell_tmp rfl, unhide T2]
                go_simp
            · have y3 : ¬ (rp.size : Int) = (p : Int) := by omega
              have N2 := hide (unhide NX (fun h => hl h.2))
              clear NX THE OK hl RF
              go_wp2
              exact ⟨⟨j + 1, by omega, by go_num, N2, B3⟩, by simp [intOf]; omega⟩
        · have hjj : ¬ (j : Int) < (n : Int) := by omega
          obtain rfl : j = n := by omega
          have A2 := hide (show ∀ k, k < j → okR ho q (l.getD k rt0) = true → (l.getD k rt0).p.size < p from fun k hk hok => by have h1 := unhide ALL k hk hok; have h2 := unhide NONE k hk hok; omega)
          go_wp2
          exact ⟨⟨p, by omega, by first | rfl | go_num, A2, B'⟩, by simp [intOf]⟩
end
end Go.Proofs.YtcmiappiocfbiaaGreatDoor
