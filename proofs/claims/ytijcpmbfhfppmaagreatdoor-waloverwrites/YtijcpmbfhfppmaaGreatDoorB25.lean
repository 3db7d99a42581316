/- Logs: removeOthers. -/
import Derived.Test.YtijcpmbfhfppmaaGreatDoorB24
import Derived.Test.YtijcpmbfhfppmaaGreatDoorB04
section
namespace Go.Proofs.YtijcpmbfhfppmaaGreatDoor
open Go.ChangeShapes Go.WideShapes Go.ChangeAt Go.RowKit
set_option linter.unusedVariables false

/-- Is a file one that an elder log left, or the spare one? -/
def othW (n : Nat) (k : Nm) : Bool := decide (k = tmpW) || (decide (0 < numW k) && decide (numW k ≠ n))
def remO (n : Nat) : List Nm → Ds → Ds
  | [], ss => ss
  | k :: r, ss => remO n r (if othW n k = true then (dRemove k ss).2 else ss)
theorem remO_snoc (n : Nat) (a : List Nm) (k : Nm) (ss : Ds) : remO n (a ++ [k]) ss = (if othW n k = true then (dRemove k (remO n a ss)).2 else remO n a ss) := by
  induction a generalizing ss with
  | nil => rfl
  | cons x a ih => exact ih _
theorem tmp_str : (⟨#[119, 97, 108, 46, 116, 109, 112]⟩ : ByteArray) = str tmpW := rfl
section
variable {Av : Nat → Prop} {base : Nat} {w w' : World} {L d M room N N' : Nat} {ss ss' : Ds} {c : Wc} {n : Nat} {ep : Option Addr} {ec : Nat} {hs : List (Option Addr × Nat)}
set_option maxRecDepth 20000 in
set_option maxHeartbeats 16000000 in
theorem removeOthers_calls (z : WAt Av base w L d M room N ss c n ep ec hs) :
    Calls Tryz.prog 62 #[.pointer (some ⟨L, 0, none⟩)] w fun e w' => e = .returned (.tuple #[]) ∧ WAt Av base w' L d M room N (remO n (ss.map (·.1)) ss) c n ep ec hs ∧ Asd Av base w w' := by
  have NC := hide (anames_calls z.dk)
  have LN := hide z.dk.len
  have NM := hide z.dk.nmlen
  have Z := hide z
  have c0 := z.ptr.1
  clear z
  go_enter Tryz.func62, Tryz.ntmps62
  go_wp2_with fail
  clear c0
  go_at_call 38
  refine (unhide NC).mono ?_
  rintro e V1 ⟨sp1, n1, k1, rfl, hn1, o1, v1⟩
  have Z1 := hide ((unhide Z).more v1)
  have A1 := hide (((unhide Z).asdB v1).sub (Bv := Av) (fun g hg => .inl hg))
  have HN := hide (show (ss.map (·.1)).length = n1 by rw [List.length_map]; exact hn1)
  have NL := hide (show ∀ s ∈ ss.map (·.1), s.length ≤ 64 from fun s hs => by
    obtain ⟨x, hx, rfl⟩ := List.mem_map.1 hs
    exact unhide NM x hx)
  have N16 := hide (show n1 ≤ 16 by rw [← hn1]; exact unhide LN)
  have OB := hide (show ∀ g, blk sp1 = some g → w.heap.size ≤ g ∧ g < V1.heap.size from fun g hg => ⟨(o1.blk_is g hg).1, (o1.blk_is g hg).2.1⟩)
  have O1 := hide o1
  clear o1 v1 hn1 NC LN NM
  obtain ⟨l, hll⟩ : ∃ l, ss.map (·.1) = l := ⟨_, rfl⟩
  rw [hll] at O1 HN NL
  have HLL := hide hll
  clear hll
  have hq := unhide N16
  go_wp2_with fail
  go_loopw [11] (fun i wr => ∃ (j : Nat), j ≤ n1 ∧ i = .int .i64 (j : Int) ∧ Hid (WAt (fun g => Av g ∨ (w.heap.size ≤ g ∧ g < V1.heap.size)) base wr L d M room N (remO n (l.take j) ss) c n ep ec hs) ∧ Hid (Asd (fun g => Av g ∨ (w.heap.size ≤ g ∧ g < V1.heap.size)) base V1 wr)) (fun i _ => n1 - (intOf i).toNat)
  case atStart => exact ⟨0, by omega, rfl, Z1, hide (Asd.refl _ _ _)⟩
  case round =>
    obtain ⟨j, hj, rfl, Z4, A4⟩ := hrel
    by_cases hjm : j < n1
    · have y0 : (0 : Int) ≤ (j : Int) := by omega
      have y1 : (j : Int) < (n1 : Int) := by omega
      have hjl : j < l.length := by rw [unhide HN]; exact hjm
      have O4 := hide ((unhide O1).same (w' := wr) (fun g hg => (unhide A4).av g (.inr (unhide OB g hg))))
      obtain ⟨g, rfl, q0⟩ := (unhide O4).cell j hjl
      have NX := unhide NL l[j] (List.getElem_mem hjl)
      have NU := hide (numberOf_calls l[j] NX wr (unhide Z4).tzw)
      have TS := hide (show remO n (l.take (j + 1)) ss = (if othW n l[j] = true then (dRemove l[j] (remO n (l.take j) ss)).2 else remO n (l.take j) ss) by rw [List.take_succ_eq_append_getElem hjl, remO_snoc])
      have EQ := str_eqN l[j] tmpW
      have SS := hide (show (str l[j]).size ≤ maxLen by rw [str_size]; simp only [maxLen]; omega)
      have RM := hide (fun (W : World) (u : Below wr.heap.size wr W) => aremove_calls ((unhide Z4).dk.later u) (str l[j]) (unhide SS))
      rw [str_list] at RM
      rw [← tmp_str, show (⟨#[119, 97, 108, 46, 116, 109, 112]⟩ : ByteArray).toList = [119, 97, 108, 46, 116, 109, 112] by rw [ByteArray.toList_eq]] at EQ
      have OT := hide (show othW n l[j] = (decide (l[j] = tmpW) || (decide (0 < numW l[j]) && decide (numW l[j] ≠ n))) from rfl)
      generalize othW n l[j] = ot at *
      generalize numW l[j] = nu at *
      generalize decide (l[j] = tmpW) = et at *
      generalize dRemove l[j] (remO n (l.take j) ss) = rm at *
      generalize str l[j] = nm at *
      clear NX hjl
      go_wp2_with fail
      clear q0
      go_at_call 96
      refine (unhide NU).mono ?_
      rintro e V4 ⟨rfl, v4⟩
      have B4 := hide v4
      have Z5 := hide ((unhide Z4).later v4)
      have A5 := hide ((unhide A4).trans (((unhide Z4).asdB v4).sub (fun g hg => .inl hg)))
      obtain ⟨c0, c6, _⟩ := (unhide Z5).ptr
      clear v4 NU
      have CA : (ot = true) ∨ (ot = false) := by cases ot <;> simp
      have R1 := hide (show ∀ W, ot = true → WAt (fun g => Av g ∨ (w.heap.size ≤ g ∧ g < V1.heap.size)) base W L d M room N rm.2 c n ep ec hs → WAt (fun g => Av g ∨ (w.heap.size ≤ g ∧ g < V1.heap.size)) base W L d M room N (remO n (l.take (j + 1)) ss) c n ep ec hs from fun W h z => by rw [unhide TS, if_pos h]; exact z)
      have R0 := hide (show ∀ W, ot = false → WAt (fun g => Av g ∨ (w.heap.size ≤ g ∧ g < V1.heap.size)) base W L d M room N (remO n (l.take j) ss) c n ep ec hs → WAt (fun g => Av g ∨ (w.heap.size ≤ g ∧ g < V1.heap.size)) base W L d M room N (remO n (l.take (j + 1)) ss) c n ep ec hs from fun W h z => by rw [unhide TS, h, if_neg (by simp)]; exact z)
      obtain ⟨er, sr⟩ := rm
      have CS : (et = true ∧ ot = true) ∨ (et = false ∧ 0 < nu ∧ nu ≠ n ∧ ot = true) ∨ (et = false ∧ nu = 0 ∧ ot = false) ∨ (et = false ∧ 0 < nu ∧ nu = n ∧ ot = false) := by
        rw [unhide OT]
        cases et with
        | true => left; simp
        | false =>
          right
          by_cases h1 : 0 < nu
          · by_cases h2 : nu = n
            · right; right; simp [h2]; omega
            · left; simp [h1, h2]
          · right; left
            have : nu = 0 := by omega
            simp [this]
      clear CA OT
      rcases CS with ⟨rfl, ho⟩ | ⟨rfl, h1, h2, ho⟩ | ⟨rfl, h1, ho⟩ | ⟨rfl, h1, h2, ho⟩
      focus
        have HO := hide ho
        have EP := eq_of_beq EQ
        clear ho
        go_wp2_with fail
        try clear EP
      rotate_left
      focus
        have HO := hide ho
        have EP := ne_of_beq_false EQ
        have k1 : (0 : Int) < (nu : Int) := by omega
        have k2 : ((nu : Int) == (n : Int)) = false := by simp; omega
        have k3 : ¬ (nu : Int) = (n : Int) := by omega
        clear ho h1 h2
        go_wp2_with fail
        clear k1 k2 k3
      rotate_left
      focus
        have Z6 := hide (unhide R0 _ ho (unhide Z5))
        have EP := ne_of_beq_false EQ
        have k1 : ¬ (0 : Int) < (nu : Int) := by omega
        clear ho h1
        go_wp2
        exact ⟨⟨j + 1, by omega, by go_num, Z6, A5⟩, by simp [intOf]; omega⟩
      focus
        have Z6 := hide (unhide R0 _ ho (unhide Z5))
        have EP := ne_of_beq_false EQ
        have k1 : (0 : Int) < (nu : Int) := by omega
        have k2 : ((nu : Int) == (n : Int)) = true := by simp; omega
        clear ho h1 h2
        go_wp2
        exact ⟨⟨j + 1, by omega, by go_num, Z6, A5⟩, by simp [intOf]; omega⟩
      all_goals
        clear c0 c6
        go_at_call 97
        refine (unhide RM _ (unhide B4)).mono ?_
        rintro e V6 ⟨rfl, dk6, as6⟩
        have Z6 := hide (unhide R1 _ (unhide HO) ((unhide Z5).disk dk6 as6))
        have A6 := hide ((unhide A5).trans (as6.sub (fun g hg => .inl hg)))
        clear dk6 as6
        go_wp2
        exact ⟨⟨j + 1, by omega, by go_num, Z6, A6⟩, by simp [intOf]; omega⟩
    · have hjj : ¬ (j : Int) < (n1 : Int) := by omega
      obtain rfl : j = n1 := by omega
      have FE := hide (show WAt Av base wr L d M room N (remO n l ss) c n ep ec hs ∧ Asd Av base w wr by
        have h := unhide Z4
        rw [List.take_of_length_le (by rw [unhide HN]; exact Nat.le_refl _)] at h
        exact ⟨h.sub (fun g hg => .inl hg), (unhide A1).trans ((unhide A4).sub (fun g hg => .inl hg))⟩)
      go_wp2
      go_end0
      exact ⟨rfl, by rw [unhide HLL]; exact (unhide FE).1, (unhide FE).2⟩
end
end Go.Proofs.YtijcpmbfhfppmaaGreatDoor
end
/- Logs: the records of a file, plainly. -/
section
namespace Go.Proofs.YtijcpmbfhfppmaaGreatDoor
open Go.ChangeShapes Go.WideShapes Go.ChangeAt Go.RowKit
set_option linter.unusedVariables false

/-- What the whole frames from a place on hold, and the place behind them. -/
def recsF (l : List Nat) : Nat → Nat → List (List Nat) × Nat
  | 0, k => ([], k)
  | f + 1, k => if nextE l k = 0 then (nextH l k :: (recsF l f (k + 8 + (nextH l k).length)).1, (recsF l f (k + 8 + (nextH l k).length)).2) else ([], k)
def recsA (l : List Nat) : List (List Nat) × Nat := recsF l l.length 0
theorem recsF_is {l : List Nat} {k : Nat} (he : 0 < nextE l k) : ∀ (hs : List (List Nat)) (f k0 : Nat), Steps l k0 hs k → hs.length ≤ f → recsF l f k0 = (hs, k)
  | [], 0, k0, h, _ => by rw [show k0 = k from h]; rfl
  | [], f + 1, k0, h, _ => by
    obtain rfl : k0 = k := h
    unfold recsF
    rw [if_neg (by omega)]
  | x :: r, 0, k0, h, hl => by simp at hl
  | x :: r, f + 1, k0, h, hl => by
    obtain ⟨h1, rfl, h3⟩ := h
    have := recsF_is he r f _ h3 (by simp only [List.length_cons] at hl; omega)
    unfold recsF
    rw [if_pos h1, this]
theorem recsA_is {l : List Nat} {k : Nat} {hs : List (List Nat)} (h : Steps l 0 hs k) (he : 0 < nextE l k) (hk : k ≤ l.length) : recsA l = (hs, k) := by
  have := h.length_le
  exact recsF_is he hs _ 0 h (by omega)
theorem takeR_ok {c c' : Wc} {l : List Nat} (h : takeR c l = some c') (hl : ∀ x ∈ l, x < 256) (hk : WOk c) : WOk c' := by
  cases l with
  | nil => cases h
  | cons k b =>
    have hlb : ∀ x ∈ b, x < 256 := fun x hx => hl x (List.mem_cons_of_mem _ hx)
    rw [takeR_cons] at h
    split at h
    · unfold markR at h
      cases h1 : takeE b 0 with
      | error x => rw [h1] at h; cases h
      | ok r =>
        obtain ⟨i, k1⟩ := r
        rw [h1] at h
        dsimp only at h
        have hi := takeE_leb h1 hlb
        cases h2 : takeE b k1 with
        | error x => rw [h2] at h; cases h
        | ok r2 =>
          obtain ⟨t, k2⟩ := r2
          rw [h2] at h
          dsimp only at h
          have ht := takeE_leb h2 hlb
          split at h
          · cases h
          · cases h
            exact ⟨hi.2, ht.2, hk.ht, hk.hv, fun e he => by simp at he⟩
    · split at h
      · unfold hardR at h
        cases h1 : wholeE b (hardE b 0) with
        | error x => rw [h1] at h; cases h
        | ok r =>
          obtain ⟨t, v⟩ := r
          rw [h1] at h
          cases h
          have hb : t ≤ 1099511627776 ∧ v ≤ 9 := by
            unfold wholeE hardE at h1
            cases q1 : takeE b 0 with
            | error x => rw [q1] at h1; cases h1
            | ok r =>
              obtain ⟨t1, k1⟩ := r
              rw [q1] at h1
              dsimp only at h1
              have b1 := takeE_leb q1 hlb
              cases q2 : takeE b k1 with
              | error x => rw [q2] at h1; cases h1
              | ok r2 =>
                obtain ⟨v1, k2⟩ := r2
                rw [q2] at h1
                dsimp only at h1
                by_cases q3 : 9 < v1
                · rw [if_pos q3] at h1; cases h1
                · rw [if_neg q3] at h1
                  dsimp only at h1
                  split at h1
                  · cases h1
                  · cases h1
                    exact ⟨b1.2, by omega⟩
          exact ⟨hk.bi, hk.bt, hb.1, hb.2, hk.es⟩
      · split at h
        · unfold entR at h
          cases h1 : wholeE b (entryE b 0) with
          | error x => rw [h1] at h; cases h
          | ok e =>
            rw [h1] at h
            dsimp only at h
            split at h
            · cases h
              refine ⟨hk.bi, hk.bt, hk.ht, hk.hv, fun x hx => ?_⟩
              obtain ⟨kd, t, i, d⟩ := e
              rcases List.mem_append.1 hx with hx | hx
              · exact hk.es x (List.mem_of_mem_take hx)
              · rw [List.mem_singleton.1 hx]
                exact (entry_back hlb h1).2
            · cases h
        · cases h
theorem foldR_ok : ∀ {rs : List (List Nat)} {c c' : Wc}, foldR c rs = some c' → (∀ r ∈ rs, ∀ x ∈ r, x < 256) → WOk c → WOk c'
  | [], c, c', h, _, hk => by cases h; exact hk
  | r :: rs, c, c', h, hl, hk => by
    rw [foldR_cons] at h
    cases h1 : takeR c r with
    | none => rw [h1] at h; cases h
    | some c1 =>
      rw [h1] at h
      exact foldR_ok h (fun x hx => hl x (by simp [hx])) (takeR_ok h1 (hl r (by simp)) hk)
theorem contR_ok {rs : List (List Nat)} {c : Wc} (h : contR rs = some c) (hl : ∀ r ∈ rs, ∀ x ∈ r, x < 256) : WOk c := by
  cases rs with
  | nil => cases h
  | cons r rs =>
    change (if isMarkL r = true then foldR wc0 (r :: rs) else none) = some c at h
    split at h
    · exact foldR_ok h hl ⟨by simp [wc0], by simp [wc0], by simp [wc0], by simp [wc0], by simp [wc0]⟩
    · cases h
theorem steps_in {l : List Nat} : ∀ {hs : List (List Nat)} {k0 k : Nat}, Steps l k0 hs k → ∀ h ∈ hs, h.length ≤ l.length
  | [], _, _, _, h, hm => by simp at hm
  | x :: r, k0, k, h, y, hm => by
    obtain ⟨h1, rfl, h3⟩ := h
    rcases List.mem_cons.1 hm with rfl | hm
    · have := (nextE_zero h1).2.2; omega
    · exact steps_in h3 y hm
/-- A log is taken from its file: the error, the disk, the content. -/
def wLoad (n : Nat) (c : Wc) (ss : Ds) : Nat × Ds × Wc × Nat :=
  if readE (walNm n) ss ≠ 0 then (8, ss, c, n)
  else match contR (recsA (nowL (walNm n) ss)).1 with
    | none => (4, ss, c, n)
    | some c2 =>
      if (dCut (walNm n) ((recsA (nowL (walNm n) ss)).2 : Int) ss).1 ≠ 0 then ((dCut (walNm n) ((recsA (nowL (walNm n) ss)).2 : Int) ss).1, (dCut (walNm n) ((recsA (nowL (walNm n) ss)).2 : Int) ss).2, c, n)
      else ((dSync (walNm n) (dCut (walNm n) ((recsA (nowL (walNm n) ss)).2 : Int) ss).2).1, (dSync (walNm n) (dCut (walNm n) ((recsA (nowL (walNm n) ss)).2 : Int) ss).2).2, c2, n)
end Go.Proofs.YtijcpmbfhfppmaaGreatDoor
end
/- Logs: load. -/
section
namespace Go.Proofs.YtijcpmbfhfppmaaGreatDoor
open Go.ChangeShapes Go.WideShapes Go.ChangeAt Go.RowKit
set_option linter.unusedVariables false

theorem set5L {w : World} {g : Nat} {o a b c d e f x y z u v : Value} {T : TypeId} (h : w.heap[g]? = some (.cells #[o, a, b, c, d, e, f] T (0, 0))) : (((((w.setCell ⟨g, 1, none⟩ x).setCell ⟨g, 2, none⟩ y).setCell ⟨g, 3, none⟩ z).setCell ⟨g, 4, none⟩ u).setCell ⟨g, 5, none⟩ v).heap[g]? = some (.cells #[o, x, y, z, u, v, f] T (0, 0)) ∧ w.grownBy (((((w.setCell ⟨g, 1, none⟩ x).setCell ⟨g, 2, none⟩ y).setCell ⟨g, 3, none⟩ z).setCell ⟨g, 4, none⟩ u).setCell ⟨g, 5, none⟩ v) (some g) := by
  have h1 := heap_setCell_same w g 1 #[o, a, b, c, d, e, f] T x h
  have h2 := heap_setCell_same _ g 2 _ T y h1
  have h3 := heap_setCell_same _ g 3 _ T z h2
  have h4 := heap_setCell_same _ g 4 _ T u h3
  have h5 := heap_setCell_same _ g 5 _ T v h4
  exact ⟨h5, ((((grown_set w g 1 x).trans (grown_set _ g 2 y)).trans (grown_set _ g 3 z)).trans (grown_set _ g 4 u)).trans (grown_set _ g 5 v)⟩
section
variable {Av : Nat → Prop} {base : Nat} {w w' : World} {L d M room N N' : Nat} {ss ss' : Ds} {c : Wc} {n : Nat} {ep : Option Addr} {ec : Nat} {hs : List (Option Addr × Nat)}
set_option maxRecDepth 20000 in
set_option maxHeartbeats 16000000 in
theorem load_calls (z : WAt Av base w L d M room N ss c n ep ec hs) (hN : N + 1 ≤ 1000000) :
    Calls Tryz.prog 64 #[.pointer (some ⟨L, 0, none⟩)] w (LgEnd Av base L d M room (N + 1) w (wLoad n c ss)) := by
  have WL := hide (show wLoad n c ss = (if readE (walNm n) ss ≠ 0 then (8, ss, c, n)
    else match contR (recsA (nowL (walNm n) ss)).1 with
    | none => (4, ss, c, n)
    | some c2 =>
      if (dCut (walNm n) ((recsA (nowL (walNm n) ss)).2 : Int) ss).1 ≠ 0 then ((dCut (walNm n) ((recsA (nowL (walNm n) ss)).2 : Int) ss).1, (dCut (walNm n) ((recsA (nowL (walNm n) ss)).2 : Int) ss).2, c, n)
      else ((dSync (walNm n) (dCut (walNm n) ((recsA (nowL (walNm n) ss)).2 : Int) ss).2).1, (dSync (walNm n) (dCut (walNm n) ((recsA (nowL (walNm n) ss)).2 : Int) ss).2).2, c2, n)) from rfl)
  generalize wLoad n c ss = wl at *
  have hnn := z.nn
  have Z := hide z
  have FS := hide (show ∀ (r : Nat) W, Below w.heap.size w W → LgEnd Av base L d M room (N + 1) w (r, ss, c, n) (.returned (.int .i64 (r : Int))) W from fun r W u => ⟨rfl, ⟨ep, ec, hs, (z.later u).monoN (by omega) hN⟩, (z.asdB u).sub (fun g hg => .inl hg)⟩)
  obtain ⟨c0, _, _⟩ := z.ptr
  have d0 : w.drew.cell? ⟨L, 0, none⟩ = some (.pointer (some ⟨d, 0, none⟩)) := c0
  have FC := hide (file_calls (z.later ((Below.refl _ _).drew)))
  have DC := hide (fun (W : World) (u : Below w.heap.size w W) => aread_calls (z.dk.later u) (str (walNm n)) (nm_size n z.nn))
  rw [str_list] at DC
  have RO := readE_or (walNm n) ss
  have ND := hide (show ∀ W : World, W.heap.size = W.heap.size from fun _ => rfl)
  generalize hNW : str (walNm n) = nm at *
  generalize hR : readE (walNm n) ss = e1 at *
  generalize nowL (walNm n) ss = lb at *
  clear z
  go_enter Tryz.func64, Tryz.ntmps64
  go_wp2_with fail
  refine wp_region_held_drew (S := fun w' => w'.cell? ⟨L, 0, none⟩ = some (.pointer (some ⟨d, 0, none⟩))) (by kernel_rfl) ?_ (fun hHeld => ?_)
  · try dsimp only
    first | exact d0 | exact d1 | exact d2
  refine held_take 0 (oi := { dst := some 11, op := Op.move (Operand.tmp 0), type := 39, pos := "file.go:50", after := #[], guard := none }) (v := ?_) (by kernel_rfl) rfl (by rfl) (by kernel_rfl) (by kernel_rfl) (fun _ _ _ h => h) ?_ (by assumption) ?_
  rotate_left
  · (intro w hSw; (try dsimp only at hSw); go_simp; try with_reducible rfl)
  try simp only [Act.put, List.setIfInBounds_toArray, List.set_cons_zero, List.set_cons_succ]
  refine held_take 1 (oi := { dst := some 12, op := Op.nilCheck (Operand.tmp 11), type := 0, pos := "file.go:50", after := #[{ on := 0, ground := Ground.data }], guard := none }) (v := ?_) (by kernel_rfl) rfl (by rfl) (by kernel_rfl) (by kernel_rfl) (fun _ _ _ h => h) ?_ (by assumption) ?_
  rotate_left
  · (intro w hSw; (try dsimp only at hSw); go_simp; try with_reducible rfl)
  try simp only [Act.put, List.setIfInBounds_toArray, List.set_cons_zero, List.set_cons_succ]
  refine held_take 2 (oi := { dst := some 13, op := Op.fieldAddr 96 (Operand.tmp 12) 0, type := 0, pos := "file.go:50", after := #[{ on := 1, ground := Ground.data }], guard := none }) (v := ?_) (by kernel_rfl) rfl (by rfl) (by kernel_rfl) (by kernel_rfl) (fun _ _ _ h => h) ?_ (by assumption) ?_
  rotate_left
  · (intro w hSw; (try dsimp only at hSw); go_simp; try with_reducible rfl)
  try simp only [Act.put, List.setIfInBounds_toArray, List.set_cons_zero, List.set_cons_succ]
  refine held_take 3 (oi := { dst := some 14, op := Op.load 38 (Operand.tmp 13), type := 38, pos := "file.go:50", after := #[{ on := 2, ground := Ground.data }], guard := none }) (v := ?_) (by kernel_rfl) rfl (by rfl) (by kernel_rfl) (by kernel_rfl) (fun _ _ _ h => h) ?_ (by assumption) ?_
  rotate_left
  · (intro w hSw; (try dsimp only at hSw); go_simp; try with_reducible rfl)
  try simp only [Act.put, List.setIfInBounds_toArray, List.set_cons_zero, List.set_cons_succ]
  refine held_take 4 (oi := { dst := some 15, op := Op.move (Operand.tmp 0), type := 39, pos := "file.go:50", after := #[], guard := none }) (v := ?_) (by kernel_rfl) rfl (by rfl) (by kernel_rfl) (by kernel_rfl) (fun _ _ _ h => h) ?_ (by assumption) ?_
  rotate_left
  · (intro w hSw; (try dsimp only at hSw); go_simp; try with_reducible rfl)
  try simp only [Act.put, List.setIfInBounds_toArray, List.set_cons_zero, List.set_cons_succ]
  refine held_one 5 (oi := { dst := some 16, op := Op.call { callee := Callee.value (Operand.func 34), args := #[Operand.tmp 15], argTypes := #[39] }, type := 9, pos := "file.go:50", after := #[{ on := 4, ground := Ground.data }], guard := none }) (by kernel_rfl) rfl (fun K hK => ?_)
  go_simp
  first
    | (go_at_call 34
       refine (unhide FC).mono ?_
       rintro e V1 ⟨rfl, v1⟩
       have d1 := cell_later v1 d0
       have B1 := hide (show Below w.heap.size w V1 from ⟨v1.os, v1.tape, v1.output, v1.size, v1.block⟩)
       clear v1)
    | (go_at_call 35
       refine (unhide DC _ (unhide B1)).mono ?_
       rintro e V2 ⟨sp, k, rfl, hk, hk2, o2, v2⟩
       have d2 := cell_later v2 d1
       have B2 := hide ((unhide B1).trans (v2.mono (unhide B1).size))
       have HK := hide hk
       have O2 := hide o2
       clear v2 o2 hk)
  go_wp2_with fail
  refine hK.out _ _ ?_ (fun hHeld => ?_)
  · try dsimp only
    first | exact d0 | exact d1 | exact d2
  clear hK K
  try simp only [Act.put, List.setIfInBounds_toArray, List.set_cons_zero, List.set_cons_succ]
  refine held_one 6 (oi := { dst := some 17, op := Op.call { callee := Callee.value (Operand.func 35), args := #[Operand.tmp 14, Operand.tmp 16], argTypes := #[38, 9] }, type := 70, pos := "file.go:50", after := #[{ on := 3, ground := Ground.data }, { on := 5, ground := Ground.data }, { on := 5, ground := Ground.chain }], guard := none }) (by kernel_rfl) rfl (fun K hK => ?_)
  go_simp
  first
    | (go_at_call 34
       refine (unhide FC).mono ?_
       rintro e V1 ⟨rfl, v1⟩
       have d1 := cell_later v1 d0
       have B1 := hide (show Below w.heap.size w V1 from ⟨v1.os, v1.tape, v1.output, v1.size, v1.block⟩)
       clear v1)
    | (go_at_call 35
       refine (unhide DC _ (unhide B1)).mono ?_
       rintro e V2 ⟨sp, k, rfl, hk, hk2, o2, v2⟩
       have d2 := cell_later v2 d1
       have B2 := hide ((unhide B1).trans (v2.mono (unhide B1).size))
       have HK := hide hk
       have O2 := hide o2
       clear v2 o2 hk)
  go_wp2_with fail
  refine hK.out _ _ ?_ (fun hHeld => ?_)
  · try dsimp only
    first | exact d0 | exact d1 | exact d2
  clear hK K
  try simp only [Act.put, List.setIfInBounds_toArray, List.set_cons_zero, List.set_cons_succ]
  refine held_take 7 (oi := { dst := some 10, op := Op.move (Operand.tmp 17), type := 70, pos := "file.go:50", after := #[{ on := 6, ground := Ground.data }], guard := none }) (v := ?_) (by kernel_rfl) rfl (by rfl) (by kernel_rfl) (by kernel_rfl) (fun _ _ _ h => h) ?_ (by assumption) ?_
  rotate_left
  · (intro w hSw; (try dsimp only at hSw); go_simp; try with_reducible rfl)
  try simp only [Act.put, List.setIfInBounds_toArray, List.set_cons_zero, List.set_cons_succ]
  refine held_take 8 (oi := { dst := some 18, op := Op.extract (Operand.tmp 10) 0, type := 58, pos := "file.go:50", after := #[{ on := 7, ground := Ground.data }], guard := none }) (v := ?_) (by kernel_rfl) rfl (by rfl) (by kernel_rfl) (by kernel_rfl) (fun _ _ _ h => h) ?_ (by assumption) ?_
  rotate_left
  · (intro w hSw; (try dsimp only at hSw); go_simp; try with_reducible rfl)
  try simp only [Act.put, List.setIfInBounds_toArray, List.set_cons_zero, List.set_cons_succ]
  refine held_take 9 (oi := { dst := some 19, op := Op.extract (Operand.tmp 10) 1, type := 49, pos := "file.go:50", after := #[{ on := 7, ground := Ground.data }, { on := 10, ground := Ground.gcOnly Departure.lateStores }], guard := none }) (v := ?_) (by kernel_rfl) rfl (by rfl) (by kernel_rfl) (by kernel_rfl) (fun _ _ _ h => h) ?_ (by assumption) ?_
  rotate_left
  · (intro w hSw; (try dsimp only at hSw); go_simp; try with_reducible rfl)
  try simp only [Act.put, List.setIfInBounds_toArray, List.set_cons_zero, List.set_cons_succ]
  refine held_take 10 (oi := { dst := some 3, op := Op.assign (Operand.tmp 18), type := 58, pos := "file.go:50", after := #[{ on := 8, ground := Ground.data }, { on := 6, ground := Ground.chain }, { on := 0, ground := Ground.phase }, { on := 1, ground := Ground.phase }, { on := 2, ground := Ground.phase }, { on := 3, ground := Ground.phase }, { on := 4, ground := Ground.phase }, { on := 5, ground := Ground.phase }, { on := 6, ground := Ground.phase }, { on := 7, ground := Ground.phase }, { on := 8, ground := Ground.phase }, { on := 9, ground := Ground.textOnly Departure.lateStores }], guard := none }) (v := ?_) (by kernel_rfl) rfl (by rfl) (by kernel_rfl) (by kernel_rfl) (fun _ _ _ h => h) ?_ (by assumption) ?_
  rotate_left
  · (intro w hSw; (try dsimp only at hSw); go_simp; try with_reducible rfl)
  try simp only [Act.put, List.setIfInBounds_toArray, List.set_cons_zero, List.set_cons_succ]
  refine held_take 11 (oi := { dst := some 4, op := Op.assign (Operand.tmp 19), type := 49, pos := "file.go:50", after := #[{ on := 9, ground := Ground.data }, { on := 10, ground := Ground.chain }, { on := 0, ground := Ground.phase }, { on := 1, ground := Ground.phase }, { on := 2, ground := Ground.phase }, { on := 3, ground := Ground.phase }, { on := 4, ground := Ground.phase }, { on := 5, ground := Ground.phase }, { on := 6, ground := Ground.phase }, { on := 7, ground := Ground.phase }, { on := 8, ground := Ground.phase }, { on := 9, ground := Ground.phase }, { on := 10, ground := Ground.phase }], guard := none }) (v := ?_) (by kernel_rfl) rfl (by rfl) (by kernel_rfl) (by kernel_rfl) (fun _ _ _ h => h) ?_ (by assumption) ?_
  rotate_left
  · (intro w hSw; (try dsimp only at hSw); go_simp; try with_reducible rfl)
  try simp only [Act.put, List.setIfInBounds_toArray, List.set_cons_zero, List.set_cons_succ]
  refine wpAnyH_done (by kernel_rfl) ?_ _
  clear FC DC d0 c0 d1 d2
  rcases RO with h1 | h1
  · subst h1
    rw [if_neg (by simp)] at WL
    have hk := unhide HK
    subst hk
    have AC := hide (all_calls sp lb.length lb V2 (by omega) (Nat.le_refl _) (unhide O2).bytes)
    go_wp2_with fail
    go_at_call 100
    refine (unhide AC).mono ?_
    rintro e V3 ⟨v3, rs, kk, rfl, b3, o3, st, ne, hkl⟩
    have RA := hide (recsA_is st ne hkl)
    rw [unhide RA] at WL
    dsimp only at WL
    obtain ⟨sp3, c3, rfl⟩ := o3.form
    have SL := st.length_le
    have B3 := hide ((unhide B2).trans (b3.mono (unhide B2).size))
    have CC := hide (contentOf_calls sp3 rs.length c3 rs V3 rfl (by omega) (fun r hr => by have := steps_in st r hr; omega) o3.rows)
    have HC := hide (fun c2 h => contR_ok (rs := rs) (c := c2) h o3.lt)
    have S8 := hide (show rs.length ≤ 1000000 by omega)
    clear st ne b3 o3 AC SL
    go_wp2_with fail
    go_at_call 101
    refine (unhide CC).mono ?_
    cases hcr : contR rs with
    | none =>
      rw [hcr] at WL
      rintro e V4 ⟨b4, rfl⟩
      have B4 := hide ((unhide B3).trans (b4.mono (unhide B3).size))
      have B5 := hide (show Below w.heap.size w (V4.alloc (.cells #[.int .i64 0, .int .i64 0, .int .i64 0, .int .i64 0, .slice none 0 0] 94)) from (unhide B4).alloc (unhide B4).size _)
      have FE := hide (unhide FS 4 _ (unhide B5))
      clear b4 hcr
      go_wp2
      go_ret
      rw [unhide WL]
      exact unhide FE
    | some c2 =>
      rw [hcr] at WL
      have OK2 := hide (unhide HC c2 hcr)
      try dsimp only at WL
      rintro e V4 ⟨b4, ep2, ec2, hs2, rfl, o4, hbi, hln⟩
      have B4 := hide ((unhide B3).trans (b4.mono (unhide B3).size))
      have U5 := hide (show Below V4.heap.size V4 (V4.alloc (.cells #[.int .i64 (c2.bi : Int), .int .i64 (c2.bt : Int), .int .i64 (c2.ht : Int), .int .i64 (c2.hv : Int), .slice ep2 c2.es.length ec2] 94)) from (Below.refl _ _).alloc (Nat.le_refl _) _)
      have X5 := hide (heap_new V4 (.cells #[.int .i64 (c2.bi : Int), .int .i64 (c2.bt : Int), .int .i64 (c2.ht : Int), .int .i64 (c2.hv : Int), .slice ep2 c2.es.length ec2] 94))
      have O4 := hide o4
      have S3 := hide (show w.heap.size ≤ V3.heap.size from (unhide B3).size)
      have S4 := hide (show w.heap.size ≤ V4.heap.size from (unhide B4).size)
      have LE2 := hide (show c2.es.length ≤ 1000000 by have := unhide S8; omega)
      clear b4 o4 hcr hbi hln CC HC
      go_wp2_with fail
      generalize V4.alloc _ = V5 at *
      have B5 := hide ((unhide B4).trans ((unhide U5).mono (unhide B4).size))
      have O5 := hide (((unhide O4).later (unhide U5)).mono (base' := base) (Nat.le_trans (unhide Z).dk.le (unhide S3)))
      have FT := hide (show ∀ g, LFoot ep2 hs2 g → w.heap.size ≤ g ∧ g < V5.heap.size from fun g hg => by
        obtain ⟨h1, h2, _⟩ := ((unhide O4).later (unhide U5)).foot g hg
        exact ⟨Nat.le_trans (unhide S3) h1, h2⟩)
      have Z5 := hide ((unhide Z).more (unhide B5))
      have A5 := hide (((unhide Z).asdB (unhide B5)).sub (Bv := Av) (fun g hg => .inl hg))
      have VL := hide (show V4.heap.size < V5.heap.size from (Array.getElem?_eq_some_iff.1 (unhide X5)).1)
      have c0 := (unhide Z5).ptr.1
      have d0 : V5.drew.cell? ⟨L, 0, none⟩ = some (.pointer (some ⟨d, 0, none⟩)) := c0
      have FC := hide (file_calls ((unhide Z5).later ((Below.refl _ _).drew)))
      have DC := hide (fun (W : World) (u : Below V5.heap.size V5 W) => acut_calls ((unhide Z5).dk.later u) hN (str (walNm n)) (nm_size n hnn) (kk : Int))
      rw [str_list] at DC
      rw [hNW] at FC DC
      generalize dCut (walNm n) (kk : Int) ss = r6 at *
      obtain ⟨e6, s6⟩ := r6
      try dsimp only at WL
      refine wp_region_held_drew (S := fun w' => w'.cell? ⟨L, 0, none⟩ = some (.pointer (some ⟨d, 0, none⟩))) (by kernel_rfl) ?_ (fun hHeld => ?_)
      · try dsimp only
        first | exact d0 | exact d1 | exact d2
      refine held_take 0 (oi := { dst := some 35, op := Op.move (Operand.tmp 0), type := 39, pos := "file.go:59", after := #[], guard := none }) (v := ?_) (by kernel_rfl) rfl (by rfl) (by kernel_rfl) (by kernel_rfl) (fun _ _ _ h => h) ?_ (by assumption) ?_
      rotate_left
      · (intro w hSw; (try dsimp only at hSw); go_simp; try with_reducible rfl)
      try simp only [Act.put, List.setIfInBounds_toArray, List.set_cons_zero, List.set_cons_succ]
      refine held_take 1 (oi := { dst := some 36, op := Op.nilCheck (Operand.tmp 35), type := 0, pos := "file.go:59", after := #[{ on := 0, ground := Ground.data }], guard := none }) (v := ?_) (by kernel_rfl) rfl (by rfl) (by kernel_rfl) (by kernel_rfl) (fun _ _ _ h => h) ?_ (by assumption) ?_
      rotate_left
      · (intro w hSw; (try dsimp only at hSw); go_simp; try with_reducible rfl)
      try simp only [Act.put, List.setIfInBounds_toArray, List.set_cons_zero, List.set_cons_succ]
      refine held_take 2 (oi := { dst := some 37, op := Op.fieldAddr 96 (Operand.tmp 36) 0, type := 0, pos := "file.go:59", after := #[{ on := 1, ground := Ground.data }], guard := none }) (v := ?_) (by kernel_rfl) rfl (by rfl) (by kernel_rfl) (by kernel_rfl) (fun _ _ _ h => h) ?_ (by assumption) ?_
      rotate_left
      · (intro w hSw; (try dsimp only at hSw); go_simp; try with_reducible rfl)
      try simp only [Act.put, List.setIfInBounds_toArray, List.set_cons_zero, List.set_cons_succ]
      refine held_take 3 (oi := { dst := some 38, op := Op.load 38 (Operand.tmp 37), type := 38, pos := "file.go:59", after := #[{ on := 2, ground := Ground.data }], guard := none }) (v := ?_) (by kernel_rfl) rfl (by rfl) (by kernel_rfl) (by kernel_rfl) (fun _ _ _ h => h) ?_ (by assumption) ?_
      rotate_left
      · (intro w hSw; (try dsimp only at hSw); go_simp; try with_reducible rfl)
      try simp only [Act.put, List.setIfInBounds_toArray, List.set_cons_zero, List.set_cons_succ]
      refine held_take 4 (oi := { dst := some 39, op := Op.move (Operand.tmp 0), type := 39, pos := "file.go:59", after := #[], guard := none }) (v := ?_) (by kernel_rfl) rfl (by rfl) (by kernel_rfl) (by kernel_rfl) (fun _ _ _ h => h) ?_ (by assumption) ?_
      rotate_left
      · (intro w hSw; (try dsimp only at hSw); go_simp; try with_reducible rfl)
      try simp only [Act.put, List.setIfInBounds_toArray, List.set_cons_zero, List.set_cons_succ]
      refine held_take 6 (oi := { dst := some 41, op := Op.move (Operand.tmp 6), type := 3, pos := "file.go:59", after := #[], guard := none }) (v := ?_) (by kernel_rfl) rfl (by rfl) (by kernel_rfl) (by kernel_rfl) (fun _ _ _ h => h) ?_ (by assumption) ?_
      rotate_left
      · (intro w hSw; (try dsimp only at hSw); go_simp; try with_reducible rfl)
      try simp only [Act.put, List.setIfInBounds_toArray, List.set_cons_zero, List.set_cons_succ]
      refine held_one 5 (oi := { dst := some 40, op := Op.call { callee := Callee.value (Operand.func 34), args := #[Operand.tmp 39], argTypes := #[39] }, type := 9, pos := "file.go:59", after := #[{ on := 4, ground := Ground.data }], guard := none }) (by kernel_rfl) rfl (fun K hK => ?_)
      go_simp
      first
        | (go_at_call 34
           refine (unhide FC).mono ?_
           rintro e V6 ⟨rfl, v6⟩
           have d1 := cell_later v6 d0
           have B6 := hide (show Below V5.heap.size V5 V6 from ⟨v6.os, v6.tape, v6.output, v6.size, v6.block⟩)
           clear v6)
        | (go_at_call 102
           refine (unhide DC _ (unhide B6)).mono ?_
           rintro e V7 ⟨rfl, dk7, as7⟩
           have Z7 := hide (((unhide Z5).later (unhide B6)).disk dk7 as7)
           have A7 := hide (((unhide Z5).asdB (unhide B6)).trans (((unhide Z5).later (unhide B6)).asd as7))
           have d2 := (unhide Z7).ptr.1
           clear dk7 as7)
      go_wp2_with fail
      refine hK.out _ _ ?_ (fun hHeld => ?_)
      · try dsimp only
        first | exact d0 | exact d1 | exact d2
      clear hK K
      try simp only [Act.put, List.setIfInBounds_toArray, List.set_cons_zero, List.set_cons_succ]
      refine held_one 7 (oi := { dst := some 42, op := Op.call { callee := Callee.value (Operand.func 102), args := #[Operand.tmp 38, Operand.tmp 40, Operand.tmp 41], argTypes := #[38, 9, 3] }, type := 49, pos := "file.go:59", after := #[{ on := 3, ground := Ground.data }, { on := 5, ground := Ground.data }, { on := 6, ground := Ground.data }, { on := 5, ground := Ground.chain }], guard := none }) (by kernel_rfl) rfl (fun K hK => ?_)
      go_simp
      first
        | (go_at_call 34
           refine (unhide FC).mono ?_
           rintro e V6 ⟨rfl, v6⟩
           have d1 := cell_later v6 d0
           have B6 := hide (show Below V5.heap.size V5 V6 from ⟨v6.os, v6.tape, v6.output, v6.size, v6.block⟩)
           clear v6)
        | (go_at_call 102
           refine (unhide DC _ (unhide B6)).mono ?_
           rintro e V7 ⟨rfl, dk7, as7⟩
           have Z7 := hide (((unhide Z5).later (unhide B6)).disk dk7 as7)
           have A7 := hide (((unhide Z5).asdB (unhide B6)).trans (((unhide Z5).later (unhide B6)).asd as7))
           have d2 := (unhide Z7).ptr.1
           clear dk7 as7)
      go_wp2_with fail
      refine hK.out _ _ ?_ (fun hHeld => ?_)
      · try dsimp only
        first | exact d0 | exact d1 | exact d2
      clear hK K
      try simp only [Act.put, List.setIfInBounds_toArray, List.set_cons_zero, List.set_cons_succ]
      refine held_take 8 (oi := { dst := some 9, op := Op.assign (Operand.tmp 42), type := 49, pos := "file.go:59", after := #[{ on := 7, ground := Ground.data }, { on := 7, ground := Ground.chain }, { on := 0, ground := Ground.phase }, { on := 1, ground := Ground.phase }, { on := 2, ground := Ground.phase }, { on := 3, ground := Ground.phase }, { on := 4, ground := Ground.phase }, { on := 5, ground := Ground.phase }, { on := 6, ground := Ground.phase }, { on := 7, ground := Ground.phase }], guard := none }) (v := ?_) (by kernel_rfl) rfl (by rfl) (by kernel_rfl) (by kernel_rfl) (fun _ _ _ h => h) ?_ (by assumption) ?_
      rotate_left
      · (intro w hSw; (try dsimp only at hSw); go_simp; try with_reducible rfl)
      try simp only [Act.put, List.setIfInBounds_toArray, List.set_cons_zero, List.set_cons_succ]
      refine wpAnyH_done (by kernel_rfl) ?_ _
      clear FC DC d0 c0 d1 d2
      have A8 := hide ((unhide A5).trans ((unhide A7).sub (Bv := Av) (fun g hg => .inl (.inl hg))))
      have X7 := hide (((unhide A7).av V4.heap.size (.inl (.inr ⟨unhide S4, unhide VL⟩))).trans (unhide X5))
      have O7 := hide ((unhide O5).same (w' := V7) (fun g hg => (unhide A7).av g (.inl (.inr (unhide FT g hg)))))
      try dsimp only at WL
      by_cases h6 : e6 = 0
      · subst h6
        rw [if_neg (by simp)] at WL
        rw [show ((0 : Nat) : Int) = 0 from rfl]
        have R7 := hide (unhide Z7).lg.row
        obtain ⟨l1, l2⟩ := set5L (x := .int .i64 (c2.bi : Int)) (y := .int .i64 (c2.bt : Int)) (z := .int .i64 (c2.ht : Int)) (u := .int .i64 (c2.hv : Int)) (v := .slice ep2 c2.es.length ec2) (unhide R7)
        obtain ⟨p1, p2⟩ := (unhide Z7).put (c2 := c2) (n' := n) (hs2 := hs2) ⟨l1⟩ l2 (unhide O7) (fun g hg => .inl (.inr (unhide FT g hg))) (unhide OK2) hnn (unhide LE2)
        have Z8 := hide (p1.sub (Bv := Av) (fun g hg => ⟨.inl hg, fun hf => by have h1 := (unhide FT g hf).1; have h2 := (unhide Z).dk.lt (.inl hg); omega⟩))
        have A9 := hide ((unhide A8).trans (p2.sub (Bv := Av) (fun g hg => .inl hg)))
        have SC := hide (wsync_calls (unhide Z8))
        generalize dSync (walNm n) s6 = r9 at *
        obtain ⟨e9, s9⟩ := r9
        try dsimp only at WL
        have x0 : V7.cell? ⟨V4.heap.size, 0, none⟩ = some (.int .i64 (c2.bi : Int)) := box_cell (unhide X7) 0 _ rfl
        have x1 : V7.cell? ⟨V4.heap.size, 1, none⟩ = some (.int .i64 (c2.bt : Int)) := box_cell (unhide X7) 1 _ rfl
        have x2 : V7.cell? ⟨V4.heap.size, 2, none⟩ = some (.int .i64 (c2.ht : Int)) := box_cell (unhide X7) 2 _ rfl
        have x3 : V7.cell? ⟨V4.heap.size, 3, none⟩ = some (.int .i64 (c2.hv : Int)) := box_cell (unhide X7) 3 _ rfl
        have x4 : V7.cell? ⟨V4.heap.size, 4, none⟩ = some (.slice ep2 c2.es.length ec2) := box_cell (unhide X7) 4 _ rfl
        have m1 : V7.cell? ⟨L, 1, none⟩ = some (.int .i64 (c.bi : Int)) := box_cell (unhide R7) 1 _ rfl
        have m2 : V7.cell? ⟨L, 2, none⟩ = some (.int .i64 (c.bt : Int)) := box_cell (unhide R7) 2 _ rfl
        have m3 : V7.cell? ⟨L, 3, none⟩ = some (.int .i64 (c.ht : Int)) := box_cell (unhide R7) 3 _ rfl
        have m4 : V7.cell? ⟨L, 4, none⟩ = some (.int .i64 (c.hv : Int)) := box_cell (unhide R7) 4 _ rfl
        have m5 : V7.cell? ⟨L, 5, none⟩ = some (.slice ep c.es.length ec) := box_cell (unhide R7) 5 _ rfl
        have f1 := froz_of (unhide R7) 1
        have f2 := froz_of (unhide R7) 2
        have f3 := froz_of (unhide R7) 3
        have f4 := froz_of (unhide R7) 4
        have f5 := froz_of (unhide R7) 5
        clear p1 p2 l1 l2
        go_wp2_with fail
        clear x0 x1 x2 x3 x4 m1 m2 m3 m4 m5 f1 f2 f3 f4 f5
        generalize ((((V7.setCell _ _).setCell _ _).setCell _ _).setCell _ _).setCell _ _ = V8 at *
        go_at_call 29
        refine (unhide SC).mono ?_
        rintro e V9 ⟨rfl, z9, a9⟩
        have FE := hide (show LgEnd Av base L d M room (N + 1) w wl (.returned (.int .i64 (e9 : Int))) V9 by
          rw [unhide WL]
          exact ⟨rfl, ⟨ep2, ec2, hs2, z9⟩, (unhide A9).trans (a9.sub (fun g hg => .inl hg))⟩)
        clear z9 a9
        go_wp2
        go_ret
        exact unhide FE
      · rw [if_pos h6] at WL
        have h6' : ((e6 : Int) == 0) = false := by simp; omega
        have h6'' : ¬ (e6 : Int) = 0 := by omega
        have FE := hide (show LgEnd Av base L d M room (N + 1) w wl (.returned (.int .i64 (e6 : Int))) V7 by
          rw [unhide WL]
          exact ⟨rfl, ⟨ep, ec, hs, (unhide Z7).sub (fun g hg => .inl hg)⟩, unhide A8⟩)
        go_wp2
        go_ret
        exact unhide FE
  · subst h1
    rw [if_pos (by simp)] at WL
    have FE := hide (unhide FS 8 V2 (unhide B2))
    go_wp2
    go_ret
    rw [unhide WL]
    exact unhide FE
end
end Go.Proofs.YtijcpmbfhfppmaaGreatDoor
end
