/- Disk: Cut, Rename, Read, Sure, New. -/
import Derived.Test.YtijcpmbfhfppmaaGreatDoorDkd
namespace Go.Proofs.YtijcpmbfhfppmaaGreatDoor
open Go.ChangeShapes Go.WideShapes Go.ChangeAt Go.RowKit Go.Maps

section
variable {base d M room N : Nat} {w w' : World} {fs fs' : List Fe}
theorem dcut_calls (h : DiskAt base w d M room N fs) (hbs : base ≤ w.heap.size) (hN : N ≤ 1000000) (s : ByteArray) (hs : s.size ≤ maxLen) (z : Int) :
    Calls Tryz.prog 102 #[.pointer (some ⟨d, 0, none⟩), .string s, .int .i64 z] w (DEnd base d M room (N + 1) w fs (dCut s.data.toList z (sps fs))) := by
  have HS := hide (sps_get s.data.toList fs)
  cases hg : getS s.data.toList fs with
  | none =>
    have F1 := hide (find_no h s hs hg)
    have E1 := hide (DEnd.stay (w := w) (r := dCut s.data.toList z (sps fs)) (e := .returned (.int .i64 8)) (h.mono (Nat.le_succ N)) (by simp [dCut, unhide HS, hg]) (by simp [dCut, unhide HS, hg]))
    clear h hbs hg HS
    go_enter Tryz.func102, Tryz.ntmps102
    go_wp2_with (go_at_call 76; refine (unhide F1).mono ?_; rintro e w' ⟨rfl, rfl⟩)
    go_ret
    exact unhide E1
  | some x =>
    obtain ⟨F, f⟩ := x
    have hm := getS_some hg
    have F1 := hide (find_yes h s hs F f hg)
    have hn : f.sp.now = f.b := h.nows hm
    have c0 := (h.file _ hm).c0
    simp only at c0
    by_cases hz : z < 0 ∨ z > f.b.length
    · have hdc : dCut s.data.toList z (sps fs) = (2, sps fs) := by
        simp only [dCut, unhide HS, hg, Option.map_some, hn]
        rw [if_pos hz]
      have E1 := hide (DEnd.stay (w := w) (r := dCut s.data.toList z (sps fs)) (e := .returned (.int .i64 2)) (h.mono (Nat.le_succ N)) (by rw [hdc]; rfl) (by rw [hdc]))
      clear h hbs hg HS hm hn hdc
      generalize f.b.length = n at *
      by_cases hz0 : z < 0
      · clear hz
        go_enter Tryz.func102, Tryz.ntmps102
        go_wp2_with (go_at_call 76; refine (unhide F1).mono ?_; rintro e w' ⟨rfl, rfl⟩)
        go_ret
        exact unhide E1
      · have hz1 : (n : Int) < z := by omega
        clear hz
        go_enter Tryz.func102, Tryz.ntmps102
        go_wp2_with (go_at_call 76; refine (unhide F1).mono ?_; rintro e w' ⟨rfl, rfl⟩)
        go_ret
        exact unhide E1
    · obtain ⟨k, rfl⟩ : ∃ k : Nat, z = (k : Int) := ⟨z.toNat, by omega⟩
      have hk : k ≤ f.b.length := by omega
      have S1 := hide (cut_calls base w F f (h.file _ hm) k hk (by have := (h.ok _ hm).few; simp only at this; omega) hbs)
      have E1 := hide (show ∀ w' cp cc, FileAt base w' F ((f.shorter k).more cp cc ((true, k, []), (none, 0))) → FGrew F w f w' ((f.shorter k).more cp cc ((true, k, []), (none, 0))) → DEnd base d M room (N + 1) w fs (dCut s.data.toList (k : Int) (sps fs)) (.returned (.int .i64 0)) w' from fun w' cp cc hf hg' => by
        obtain ⟨k1, k2⟩ := h.upd (w' := w') hm hf hg' ((h.ok _ hm).cut k hk cp cc) (Nat.le_succ N)
        have hdc : dCut s.data.toList (k : Int) (sps fs) = (0, putF s.data.toList ⟨f.sp.la, f.sp.y, f.sp.cs ++ [(true, k, [])]⟩ (sps fs)) := by
          simp only [dCut, unhide HS, hg, Option.map_some, hn]
          rw [if_neg hz]; rfl
        rw [hdc]
        refine ⟨rfl, _, k1, k2, ?_⟩
        rw [sps_put]
        simp [Fil.sp, Fil.more, Fil.shorter])
      have hz0 : ¬ ((k : Int) < 0) := by omega
      have hz1 : ¬ ((f.b.length : Int) < (k : Int)) := by omega
      clear h hbs hg HS hm hn hz hk
      generalize f.b.length = n at *
      go_enter Tryz.func102, Tryz.ntmps102
      go_wp2_with (first
        | (go_at_call 76; refine (unhide F1).mono ?_; rintro e w' ⟨rfl, rfl⟩)
        | (go_at_call 135; refine (unhide S1).mono ?_; rintro e W ⟨rfl, cp, cc, hf, hg⟩; have E2 := hide (unhide E1 W cp cc hf hg); clear hf hg))
      go_ret
      exact unhide E2
theorem dread_yes (h : DiskAt base w d M room N fs) (s : ByteArray) (hs : s.size ≤ maxLen) (F : Nat) (f : Fil) (hg : getS s.data.toList fs = some (F, f)) :
    Calls Tryz.prog 35 #[.pointer (some ⟨d, 0, none⟩), .string s] w fun e w' => ∃ sp n, e = .returned (.tuple #[.slice sp n n, .int .i64 0]) ∧ f.sp.now.length = n ∧ n ≤ 262144 ∧ Bx w.heap.size w' sp n f.sp.now ∧ Below w.heap.size w w' := by
  have hm := getS_some hg
  have F1 := hide (find_yes h s hs F f hg)
  rw [show f.sp.now = f.b from h.nows hm]
  have c0 := (h.file _ hm).c0
  simp only at c0
  have h8 : f.b.length ≤ 262144 := (h.ok _ hm).b8
  have S1 := hide (fresh_calls f.bp f.b.length f.bc f.b w rfl (by omega) (h.file _ hm).bytes.bytes (h.file _ hm).bytes.nil0)
  have HN := hide (rfl : f.b.length = f.b.length)
  clear h hg hm
  generalize hn : f.b.length = n at c0 h8 S1 HN
  have HN2 := hide hn
  clear hn HN
  go_enter Tryz.func35, Tryz.ntmps35
  go_wp2_with (first
    | (go_at_call 76; refine (unhide F1).mono ?_; rintro e w' ⟨rfl, rfl⟩)
    | (go_at_call 77; refine (unhide S1).mono ?_; rintro e W ⟨sp, rfl, hx, hb⟩; have X1 := hide hx; have B1 := hide hb; clear hx hb))
  go_ret2
  exact ⟨sp, n, rfl, by first | exact unhide HN2 | rfl, h8, unhide X1, unhide B1⟩
theorem dread_no (h : DiskAt base w d M room N fs) (s : ByteArray) (hs : s.size ≤ maxLen) (hg : getS s.data.toList fs = none) :
    Calls Tryz.prog 35 #[.pointer (some ⟨d, 0, none⟩), .string s] w fun e w' => e = .returned (.tuple #[.slice none 0 0, .int .i64 8]) ∧ w' = w := by
  have F1 := hide (find_no h s hs hg)
  clear h hg
  go_enter Tryz.func35, Tryz.ntmps35
  go_wp2_with (go_at_call 76; refine (unhide F1).mono ?_; rintro e w' ⟨rfl, rfl⟩)
  go_ret2
  exact ⟨rfl, rfl⟩
theorem dsure_yes (h : DiskAt base w d M room N fs) (s : ByteArray) (hs : s.size ≤ maxLen) (F : Nat) (f : Fil) (hg : getS s.data.toList fs = some (F, f)) (hla : f.sp.la = true) :
    Calls Tryz.prog 56 #[.pointer (some ⟨d, 0, none⟩), .string s] w fun e w' => ∃ sp n, e = .returned (.tuple #[.slice sp n n, .int .i64 0]) ∧ f.sp.y.length = n ∧ n ≤ 262144 ∧ Bx w.heap.size w' sp n f.sp.y ∧ Below w.heap.size w w' := by
  have hm := getS_some hg
  have F1 := hide (find_yes h s hs F f hg)
  have hla2 : f.la = true := hla
  have c1 := (h.file _ hm).c1
  have c2 := (h.file _ hm).c2
  simp only at c1 c2
  rw [hla2] at c2
  have h8 : f.y.length ≤ 262144 := (h.ok _ hm).y8
  have S1 := hide (fresh_calls f.yp f.y.length f.yc f.y w rfl (by omega) (h.file _ hm).sure.bytes (h.file _ hm).sure.nil0)
  have HN := hide (rfl : f.y.length = f.y.length)
  clear h hg hm hla hla2
  show Calls _ _ _ _ fun e w' => ∃ sp n, e = .returned (.tuple #[.slice sp n n, .int .i64 0]) ∧ f.y.length = n ∧ n ≤ 262144 ∧ Bx w.heap.size w' sp n f.y ∧ Below w.heap.size w w'
  generalize hn : f.y.length = n at c1 h8 S1 HN
  have HN2 := hide hn
  clear hn HN
  go_enter Tryz.func56, Tryz.ntmps56
  go_wp2_with (first
    | (go_at_call 76; refine (unhide F1).mono ?_; rintro e w' ⟨rfl, rfl⟩)
    | (go_at_call 77; refine (unhide S1).mono ?_; rintro e W ⟨sp, rfl, hx, hb⟩; have X1 := hide hx; have B1 := hide hb; clear hx hb))
  go_ret2
  exact ⟨sp, n, rfl, by first | exact unhide HN2 | rfl, h8, unhide X1, unhide B1⟩
theorem dsure_not (h : DiskAt base w d M room N fs) (s : ByteArray) (hs : s.size ≤ maxLen) (F : Nat) (f : Fil) (hg : getS s.data.toList fs = some (F, f)) (hla : f.sp.la = false) :
    Calls Tryz.prog 56 #[.pointer (some ⟨d, 0, none⟩), .string s] w fun e w' => e = .returned (.tuple #[.slice none 0 0, .int .i64 8]) ∧ w' = w := by
  have hm := getS_some hg
  have F1 := hide (find_yes h s hs F f hg)
  have hla2 : f.la = false := hla
  have c2 := (h.file _ hm).c2
  simp only at c2
  rw [hla2] at c2
  clear h hg hm hla hla2
  go_enter Tryz.func56, Tryz.ntmps56
  go_wp2_with (go_at_call 76; refine (unhide F1).mono ?_; rintro e w' ⟨rfl, rfl⟩)
  go_ret2
  exact ⟨rfl, rfl⟩
theorem dsure_no (h : DiskAt base w d M room N fs) (s : ByteArray) (hs : s.size ≤ maxLen) (hg : getS s.data.toList fs = none) :
    Calls Tryz.prog 56 #[.pointer (some ⟨d, 0, none⟩), .string s] w fun e w' => e = .returned (.tuple #[.slice none 0 0, .int .i64 8]) ∧ w' = w := by
  have F1 := hide (find_no h s hs hg)
  clear h hg
  go_enter Tryz.func56, Tryz.ntmps56
  go_wp2_with (go_at_call 76; refine (unhide F1).mono ?_; rintro e w' ⟨rfl, rfl⟩)
  go_ret2
  exact ⟨rfl, rfl⟩
theorem DiskAt.new (w : World) (hb : base ≤ w.heap.size) (room : Nat) : DiskAt base ((w.alloc (.map #[] 0)).alloc (.cells #[.int .i64 (room : Int), .map (some w.heap.size)] 101)) (w.heap.size + 1) w.heap.size room 0 [] := by
  have hs : (w.alloc (.map #[] 0)).heap.size = w.heap.size + 1 := by simp
  have b1 : Below (w.alloc (.map #[] 0)).heap.size (w.alloc (.map #[] 0)) ((w.alloc (.map #[] 0)).alloc (.cells #[.int .i64 (room : Int), .map (some w.heap.size)] 101)) := (Below.refl _ _).alloc (Nat.le_refl _) _
  refine ⟨?_, (MapAt.made w).later b1, List.Pairwise.nil, by simp, by simp, by omega, hb, by simp, by simp, by simp, by simp⟩
  rw [← hs]
  exact heap_new _ _
theorem dnew_calls (w : World) (hb : base ≤ w.heap.size) (z : Int) : Calls Tryz.prog 24 #[.int .i64 z] w fun e w' => e = .returned (.pointer (some ⟨w.heap.size + 1, 0, none⟩)) ∧ DiskAt base w' (w.heap.size + 1) w.heap.size z.toNat 0 [] ∧ Below w.heap.size w w' := by
  have HD := hide (DiskAt.new (base := base) w hb z.toNat)
  have HB := hide (show Below w.heap.size w ((w.alloc (.map #[] 0)).alloc (.cells #[.int .i64 (z.toNat : Int), .map (some w.heap.size)] 101)) from ((Below.refl _ _).alloc (Nat.le_refl _) _).alloc (by simp) _)
  have hmk := @run_makeMap Tryz.prog
  have hmx : max z 0 = (z.toNat : Int) := by omega
  generalize z.toNat = r at *
  clear hb
  go_enter Tryz.func24, Tryz.ntmps24
  go_wp2
  go_ret
  exact ⟨rfl, unhide HD, unhide HB⟩
end
end Go.Proofs.YtijcpmbfhfppmaaGreatDoor
