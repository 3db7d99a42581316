/- The two disks tell the same of all. -/
import Derived.Test.YtghdiemihceaoaaDtw
import Derived.Test.YtghdiemihceaoaaDkn
import Derived.BigQuiet
namespace Go.Proofs.Ytghdiemihceaoaa
open Go.ChangeShapes Go.WideShapes Go.ChangeAt Go.RowKit Go.Maps

set_option maxRecDepth 20000 in
set_option maxHeartbeats 4000000 in
theorem sameTexts_yes (b1 b2 : Nat) (w : World) (l : List Nm) (n : Nat) (hn : l.length = n) (h16 : n ≤ 1000) (a b : Option Addr) (ca cb : Nat) (A : OwnN b1 w a ca l) (Bq : OwnN b2 w b cb l) :
    Calls Try.prog 29 #[.slice a n ca, .slice b n cb] w fun e w' => e = .returned (.bool true) ∧ Below w.heap.size w w' := by
  have HA := hide (fun W (hb : Below w.heap.size w W) => A.later hb)
  have HB := hide (fun W (hb : Below w.heap.size w W) => Bq.later hb)
  have HN := hide hn
  clear A Bq hn
  go_enter Try.func29, Try.ntmps29
  go_wp2_with fail
  go_loopw [5] (fun i wr => ∃ j : Nat, j ≤ n ∧ i = .int .i64 (j : Int) ∧ Hid (Below w.heap.size w wr)) (fun i _ => n - (intOf i).toNat)
  case atStart => exact ⟨0, by omega, rfl, hide (Below.refl _ _)⟩
  case round =>
    obtain ⟨j, hj, rfl, HW⟩ := hrel
    by_cases hjn : j < n
    · have y1 : (j : Int) < (n : Int) := by omega
      have y0 : (0 : Int) ≤ (j : Int) := by omega
      have hjl : j < l.length := by rw [unhide HN]; exact hjn
      obtain ⟨g1, rfl, q1⟩ := (unhide HA wr (unhide HW)).cell j hjl
      obtain ⟨g2, rfl, q2⟩ := (unhide HB wr (unhide HW)).cell j hjl
      generalize str l[j] = s at *
      clear hjl
      go_wp2_with fail
      go_quiet (fail)
      go_wp2
      exact ⟨⟨j + 1, by omega, by go_num, hide ((unhide HW).trans ⟨rfl, rfl, rfl, Nat.le_refl _, fun _ _ => rfl⟩)⟩, by simp [intOf]; omega⟩
    · have y1 : ¬ (j : Int) < (n : Int) := by omega
      go_wp2
      go_ret
      exact ⟨rfl, unhide HW⟩
section
variable {base d M R room N : Nat} {B : List Nat} {w w' : World} {ss tt : Ds}
/-- What Sure tells of a file. -/
def sureL (x : Sp) : List Nat := if x.la = true then x.y else []
def sureE (x : Sp) : Int := if x.la = true then 0 else 8
theorem Two.names_le (h : Two base B w d M R room N ss tt) : ∀ x ∈ ss, x.1.length ≤ 64 := by
  obtain ⟨fs, sp, c, rs, h, rfl, rfl⟩ := h
  intro x hx
  obtain ⟨y, hy, rfl⟩ := List.mem_map.1 hx
  exact h.disk.names y hy
theorem Two.few16 (h : Two base B w d M R room N ss tt) : ss.length ≤ 16 := by
  obtain ⟨fs, sp, c, rs, h, rfl, rfl⟩ := h
  simp only [sps, List.length_map]
  exact h.disk.few
theorem Two.riseS (h : Two base B w d M R room N ss tt) : Rises ss := by
  obtain ⟨fs, sp, c, rs, h, rfl, rfl⟩ := h
  exact h.disk.riseS
theorem str_small (k : Nm) (hk : k.length ≤ 64) : (str k).size ≤ maxLen := by
  show k.toArray.size ≤ maxLen
  simp only [List.size_toArray, maxLen]
  omega
theorem lread_calls (h : Two base B w d M R room N ss tt) (k : Nm) (hk : k.length ≤ 64) (x : Sp) (hx : getS k ss = some x) :
    Calls Try.prog 17 #[.pointer (some ⟨d, 0, none⟩), .string (str k)] w fun e w' => ∃ sp n c, e = .returned (.tuple #[.slice sp n c, .int .i64 0]) ∧ x.now.length = n ∧ BytesAt w' sp x.now ∧ Below w.heap.size w w' := by
  obtain ⟨fs, sp, c, rs, h, rfl, rfl⟩ := h
  rw [sps_get, Option.map_eq_some_iff] at hx
  obtain ⟨⟨F, f⟩, hf, rfl⟩ := hx
  refine (dread_yes h.disk (str k) (str_small k hk) F f (by rw [str_list]; exact hf)).mono ?_
  rintro e w' ⟨sp', n, rfl, hn, _, hX, hb⟩
  exact ⟨sp', n, n, rfl, hn, hX.bytes, hb⟩
theorem mread_calls (h : Two base B w d M R room N ss tt) (k : Nm) (x : Sp) (hx : getS k tt = some x) :
    Calls Try.prog 18 #[.pointer (some ⟨R, 0, none⟩), .string (str k)] w fun e w' => ∃ sp n c, e = .returned (.tuple #[.slice sp n c, .int .i64 0]) ∧ x.now.length = n ∧ BytesAt w' sp x.now ∧ Below w.heap.size w w' := by
  obtain ⟨fs, sp, c, rs, h, rfl, rfl⟩ := h
  refine (rread_yes h.ref (str k) x (by rw [str_list]; exact hx)).mono ?_
  rintro e w' ⟨sp', n, c', rfl, hn, hX, hb⟩
  exact ⟨sp', n, c', rfl, hn, hX.bytes, hb⟩
theorem lsure_calls (h : Two base B w d M R room N ss tt) (k : Nm) (hk : k.length ≤ 64) (x : Sp) (hx : getS k ss = some x) :
    Calls Try.prog 28 #[.pointer (some ⟨d, 0, none⟩), .string (str k)] w fun e w' => ∃ sp n c, e = .returned (.tuple #[.slice sp n c, .int .i64 (sureE x)]) ∧ (sureL x).length = n ∧ BytesAt w' sp (sureL x) ∧ Below w.heap.size w w' := by
  obtain ⟨fs, sp, c, rs, h, rfl, rfl⟩ := h
  rw [sps_get, Option.map_eq_some_iff] at hx
  obtain ⟨⟨F, f⟩, hf, rfl⟩ := hx
  cases hla : f.sp.la with
  | true =>
    rw [show sureE f.sp = 0 by simp [sureE, hla], show sureL f.sp = f.sp.y by simp [sureL, hla]]
    refine (dsure_yes h.disk (str k) (str_small k hk) F f (by rw [str_list]; exact hf) hla).mono ?_
    rintro e w' ⟨sp', n, rfl, hn, _, hX, hb⟩
    exact ⟨sp', n, n, rfl, hn, hX.bytes, hb⟩
  | false =>
    rw [show sureE f.sp = 8 by simp [sureE, hla], show sureL f.sp = [] by simp [sureL, hla]]
    refine (dsure_not h.disk (str k) (str_small k hk) F f (by rw [str_list]; exact hf) hla).mono ?_
    rintro e w' ⟨rfl, rfl⟩
    exact ⟨none, 0, 0, rfl, rfl, ⟨by simp, by simp⟩, Below.refl _ _⟩
theorem msure_calls (h : Two base B w d M R room N ss tt) (k : Nm) (x : Sp) (hx : getS k tt = some x) :
    Calls Try.prog 42 #[.pointer (some ⟨R, 0, none⟩), .string (str k)] w fun e w' => ∃ sp n c, e = .returned (.tuple #[.slice sp n c, .int .i64 (sureE x)]) ∧ (sureL x).length = n ∧ BytesAt w' sp (sureL x) ∧ Below w.heap.size w w' := by
  obtain ⟨fs, sp, c, rs, h, rfl, rfl⟩ := h
  cases hla : x.la with
  | true =>
    rw [show sureE x = 0 by simp [sureE, hla], show sureL x = x.y by simp [sureL, hla]]
    refine (rsure_yes h.ref (str k) x (by rw [str_list]; exact hx) hla).mono ?_
    rintro e w' ⟨sp', n, c', rfl, hn, hX, hb⟩
    exact ⟨sp', n, c', rfl, hn, hX.bytes, hb⟩
  | false =>
    rw [show sureE x = 8 by simp [sureE, hla], show sureL x = [] by simp [sureL, hla]]
    refine (rsure_no h.ref (str k) (fun y hy => by rw [str_list, hx] at hy; cases hy; exact hla)).mono ?_
    rintro e w' ⟨rfl, rfl⟩
    exact ⟨none, 0, 0, rfl, rfl, ⟨by simp, by simp⟩, Below.refl _ _⟩
theorem lused_calls (h : Two base B w d M R room N ss tt) : Calls Try.prog 34 #[.pointer (some ⟨d, 0, none⟩)] w fun e w' => e = .returned (.int .i64 (usedS ss : Int)) ∧ Below w.heap.size w w' := by
  obtain ⟨fs, sp, c, rs, h, rfl, rfl⟩ := h
  exact dused_calls h.disk
theorem mused_calls (h : Two base B w d M R room N ss tt) : Calls Try.prog 41 #[.pointer (some ⟨R, 0, none⟩)] w fun e w' => e = .returned (.int .i64 (usedS tt : Int)) ∧ Below w.heap.size w w' := by
  obtain ⟨fs, sp, c, rs, h, rfl, rfl⟩ := h
  exact rused_calls h.ref
theorem lnames_calls (h : Two base B w d M R room N ss tt) : Calls Try.prog 27 #[.pointer (some ⟨d, 0, none⟩)] w fun e w' => ∃ sp n c, e = .returned (.slice sp n c) ∧ ss.length = n ∧ OwnN w.heap.size w' sp c (ss.map (·.1)) ∧ Below w.heap.size w w' := by
  obtain ⟨fs, sp, c, rs, h, rfl, rfl⟩ := h
  have e : (sps fs).map (·.1) = fs.map (·.1) := by simp [sps]
  rw [e, show (sps fs).length = fs.length by simp [sps]]
  exact dnames_calls h.disk
theorem mnames_calls (h : Two base B w d M R room N ss tt) : Calls Try.prog 40 #[.pointer (some ⟨R, 0, none⟩)] w fun e w' => ∃ sp n c, e = .returned (.slice sp n c) ∧ tt.length = n ∧ OwnN w.heap.size w' sp c (tt.map (·.1)) ∧ Below w.heap.size w w' := by
  obtain ⟨fs, sp, c, rs, h, rfl, rfl⟩ := h
  have e : (rss rs).map (·.1) = rs.map (·.1) := by simp [rss]
  rw [e, show (rss rs).length = rs.length by simp [rss]]
  exact rnames_calls h.ref
set_option maxRecDepth 20000 in
set_option maxHeartbeats 40000000 in
theorem same_calls (h : Two base B w d M R room N ss ss) : Calls Try.prog 16 #[.pointer (some ⟨d, 0, none⟩), .pointer (some ⟨R, 0, none⟩)] w fun e w' => e = .returned (.bool true) ∧ Below w.heap.size w w' := by
  have H := hide h
  have TT := hide (fun W (hb : Below w.heap.size w W) => h.later hb)
  have h16 := h.few16
  have NL := hide h.names_le
  have RS := hide h.riseS
  have MN := hide (mnames_calls h)
  clear h
  go_enter Try.func16, Try.ntmps16
  go_wp2_with (first
    | (go_at_call 40
       refine (unhide MN).mono ?_
       rintro e W1 ⟨lp, n, lc, rfl, hn, hL, b1⟩
       have B1 := hide b1
       have L1 := hide hL
       have HN := hide hn
       have LN := hide (lnames_calls (unhide TT W1 b1))
       clear b1 hL hn)
    | (go_at_call 27
       refine (unhide LN).mono ?_
       rintro e W2 ⟨np, n2, nc, rfl, hn, hL, b2⟩
       have hnn : n2 = n := hn.symm.trans (unhide HN)
       subst hnn
       have B2 := hide ((unhide B1).trans (b2.mono (unhide B1).size))
       have ST := hide (sameTexts_yes _ _ W2 (ss.map (·.1)) n2 (by rw [List.length_map]; exact hn) (by omega) np lp nc lc hL ((unhide L1).later b2))
       have L2 := hide ((unhide L1).later b2)
       clear b2 hL hn)
    | (go_at_call 29
       refine (unhide ST).mono ?_
       rintro e W3 ⟨rfl, b3⟩
       have B3 := hide ((unhide B2).trans (b3.mono (unhide B2).size))
       have L3 := hide ((unhide L2).later b3)
       have LU := hide (lused_calls (unhide TT W3 (unhide B3)))
       clear b3)
    | (go_at_call 34
       refine (unhide LU).mono ?_
       rintro e W4 ⟨rfl, b4⟩
       have B4 := hide ((unhide B3).trans (b4.mono (unhide B3).size))
       have L4 := hide ((unhide L3).later b4)
       have MU := hide (mused_calls (unhide TT W4 (unhide B4)))
       clear b4)
    | (go_at_call 41
       refine (unhide MU).mono ?_
       rintro e W5 ⟨rfl, b5⟩
       have B5 := hide ((unhide B4).trans (b5.mono (unhide B4).size))
       have L5 := hide ((unhide L4).later b5)
       clear b5))
  go_loopw [6] (fun i wr => ∃ j : Nat, j ≤ n2 ∧ i = .int .i64 (j : Int) ∧ Hid (Below W5.heap.size W5 wr)) (fun i _ => n2 - (intOf i).toNat)
  case atStart => exact ⟨0, by omega, rfl, hide (Below.refl _ _)⟩
  case round =>
    obtain ⟨j, hj, rfl, HW⟩ := hrel
    have BW := hide ((unhide B5).trans ((unhide HW).mono (unhide B5).size))
    by_cases hjn : j < n2
    · have y1 : (j : Int) < (n2 : Int) := by omega
      have y0 : (0 : Int) ≤ (j : Int) := by omega
      have hjs : j < ss.length := by rw [unhide HN]; exact hjn
      have LA := hide (fun W (hb : Below wr.heap.size wr W) => ((unhide L5).later (unhide HW)).later hb)
      obtain ⟨g, rfl, p0⟩ := (unhide LA wr (Below.refl _ _)).cell j (by rw [List.length_map]; exact hjs)
      have LC := hide (show ∀ W, Below wr.heap.size wr W → W.cell? ⟨g, j, none⟩ = some (.string (str ss[j].1)) from fun W hb => by
        obtain ⟨g', e', p⟩ := (unhide LA W hb).cell j (by rw [List.length_map]; exact hjs)
        obtain rfl : g = g' := by simpa using e'
        rw [List.getElem_map] at p
        exact p)
      rw [List.getElem_map] at p0
      have G := hide (show getS ss[j].1 ss = some ss[j].2 from getS_mem (unhide RS) (List.getElem_mem hjs))
      have K64 := hide (unhide NL _ (List.getElem_mem hjs))
      have TW := hide (fun W (hb : Below wr.heap.size wr W) => unhide TT W ((unhide BW).trans (hb.mono (unhide BW).size)))
      clear LA
      generalize ss[j] = z at *
      obtain ⟨k, x⟩ := z
      simp only at p0 LC G K64
      have C1 := hide (lread_calls (unhide TW wr (Below.refl _ _)) k (unhide K64) x (unhide G))
      go_wp2_with (first
        | (go_at_call 17
           refine (unhide C1).mono ?_
           rintro e V1 ⟨p1, n1, c1, rfl, hn1, hb1, b1⟩
           have D1 := hide b1
           have P1 := hide hb1
           have N1 := hide hn1
           have r1 := unhide LC V1 b1
           have C2 := hide (mread_calls (unhide TW V1 b1) k x (unhide G))
           clear b1 hb1 hn1)
        | (go_at_call 18
           refine (unhide C2).mono ?_
           rintro e V2 ⟨p2, m2, c2, rfl, hn2, hb2, b2⟩
           have D2 := hide ((unhide D1).trans (b2.mono (unhide D1).size))
           have P1b := hide ((unhide P1).later b2)
           have P2 := hide hb2
           have N2 := hide hn2
           have r2 := unhide LC V2 (unhide D2)
           have C3 := hide (lsure_calls (unhide TW V2 (unhide D2)) k (unhide K64) x (unhide G))
           clear b2 hb2 hn2)
        | (go_at_call 28
           refine (unhide C3).mono ?_
           rintro e V3 ⟨p3, m3, c3, rfl, hn3, hb3, b3⟩
           have D3 := hide ((unhide D2).trans (b3.mono (unhide D2).size))
           have P1c := hide ((unhide P1b).later b3)
           have P2c := hide ((unhide P2).later b3)
           have P3 := hide hb3
           have N3 := hide hn3
           have r3 := unhide LC V3 (unhide D3)
           have C4 := hide (msure_calls (unhide TW V3 (unhide D3)) k x (unhide G))
           clear b3 hb3 hn3)
        | (go_at_call 42
           refine (unhide C4).mono ?_
           rintro e V4 ⟨p4, m4, c4, rfl, hn4, hb4, b4⟩
           have D4 := hide ((unhide D3).trans (b4.mono (unhide D3).size))
           have s1 := run_string8 n1 c1 (unhide N1) ((unhide P1c).later b4)
           have s2 := run_string8 m2 c2 (unhide N2) ((unhide P2c).later b4)
           have s3 := run_string8 m3 c3 (unhide N3) ((unhide P3).later b4)
           have s4 := run_string8 m4 c4 hn4 hb4
           clear b4 hb4 hn4))
      exact ⟨⟨j + 1, by omega, by go_num, hide ((unhide HW).trans ((unhide D4).mono (unhide HW).size))⟩, by simp [intOf]; omega⟩
    · have y1 : ¬ (j : Int) < (n2 : Int) := by omega
      go_wp2
      go_ret
      exact ⟨rfl, unhide BW⟩
end
end Go.Proofs.Ytghdiemihceaoaa
