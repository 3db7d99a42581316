/- Proved: no more than MaxFiles files are there; names rise; a name that may not be is none; for all names; no condition. -/
import Derived.Test.YtinmfbellefbhaaArg
import Derived.Test.YtinmfbellefbhaaDko
import Derived.Sort.Walk0
namespace Go.Proofs.Ytinmfbellefbhaa.diskFiles
open Go.ChangeShapes Go.WideShapes Go.ChangeAt Go.RowKit
set_option linter.unusedVariables false

theorem own : ownKnob Try.prog.godebug = none := by kernel_rfl
theorem laidOut : laidOutB Try.prog = true := by kernel_rfl

/-- What the disk is, and which names the law has gathered. -/
structure FInv (ss : Ds) (th : List Nm) : Prop where
  rise : Rises ss
  zero : ∀ x ∈ ss, x.2 = sp0
  mem : ∀ k, k ∈ th ↔ k ∈ ss.map (·.1)
  len : th.length = ss.length
theorem FInv.nil : FInv [] [] := ⟨List.Pairwise.nil, by simp, by simp, rfl⟩
theorem FInv.used {ss : Ds} {th : List Nm} (h : FInv ss th) : usedS ss = 0 := by
  have key : ∀ l : Ds, (∀ x ∈ l, x.2 = sp0) → usedS l = 0 := by
    intro l
    induction l with
    | nil => intro _; rfl
    | cons x r ih =>
      intro hl
      have h1 := ih (fun y hy => hl y (List.mem_cons_of_mem _ hy))
      have h2 := hl x List.mem_cons_self
      simp only [usedS, List.map_cons, List.sum_cons] at h1 ⊢
      rw [h1, h2]
      rfl
  exact key ss h.zero
theorem FInv.bad {ss : Ds} {th : List Nm} (_h : FInv ss th) (k : Nm) (hk : nameL k = false) : dWrite 0 k 0 [] ss = (14, ss) := by
  unfold dWrite
  rw [if_pos hk]
theorem FInv.old {ss : Ds} {th : List Nm} (h : FInv ss th) (k : Nm) (hk : nameL k = true) (hm : k ∈ th) : dWrite 0 k 0 [] ss = (0, ss) := by
  have hm2 := (h.mem k).1 hm
  cases hg : getS k ss with
  | none => exact absurd hm2 (getS_none.1 hg)
  | some s =>
    have h1 := dWrite_old 0 k hk 0 [] ss s hg (Nat.zero_le _) (by simp) (by rw [h.used]; simp)
    have h2 : wrote s 0 [] = s := rfl
    rw [h2, putF_same h.rise (getS_some hg)] at h1
    exact h1
theorem FInv.full {ss : Ds} {th : List Nm} (h : FInv ss th) (k : Nm) (hk : nameL k = true) (hm : k ∉ th) (hl : 16 ≤ th.length) : dWrite 0 k 0 [] ss = (6, ss) := by
  have hg : getS k ss = none := getS_none.2 (fun e => hm ((h.mem k).2 e))
  unfold dWrite
  rw [hg, if_neg (by simp [hk])]
  simp only [Option.getD_none, Option.isNone_none, true_and]
  rw [if_neg (by simp [sp0, Sp.now, nowC]), if_pos (.inl (by rw [← h.len]; exact hl))]
theorem FInv.new {ss : Ds} {th : List Nm} (h : FInv ss th) (k : Nm) (hk : nameL k = true) (hm : k ∉ th) (hl : th.length < 16) : dWrite 0 k 0 [] ss = (0, putF k sp0 ss) ∧ FInv (putF k sp0 ss) (th ++ [k]) := by
  have hg : getS k ss = none := getS_none.2 (fun e => hm ((h.mem k).2 e))
  refine ⟨dWrite_new 0 k hk [] ss hg (by rw [← h.len]; exact hl) (by simp) (by rw [h.used]; simp), h.rise.put _ _, ?_, ?_, ?_⟩
  · intro x hx
    rcases (mem_putF h.rise x).1 hx with rfl | ⟨hx, _⟩
    · rfl
    · exact h.zero x hx
  · intro j
    rw [List.mem_append, List.mem_singleton, h.mem j]
    constructor
    · rintro (hj | rfl)
      · obtain ⟨x, hx, rfl⟩ := List.mem_map.1 hj
        exact List.mem_map.2 ⟨x, (mem_putF h.rise x).2 (.inr ⟨hx, fun e => hm ((h.mem k).2 (e ▸ hj))⟩), rfl⟩
      · exact List.mem_map.2 ⟨_, (mem_putF h.rise _).2 (.inl rfl), rfl⟩
    · intro hj
      obtain ⟨x, hx, rfl⟩ := List.mem_map.1 hj
      rcases (mem_putF h.rise x).1 hx with rfl | ⟨hx, _⟩
      · exact .inr rfl
      · exact .inl (List.mem_map.2 ⟨x, hx, rfl⟩)
  · rw [putF_length h.rise, if_neg (getS_none.1 hg), List.length_append, h.len]
    rfl
theorem str_of (s : ByteArray) : str s.data.toList = s := by
  cases s; simp [str]
set_option maxRecDepth 20000 in
set_option maxHeartbeats 40000000 in
theorem walk (a : Option Addr) (c : Nat) (l : List ByteArray) (w : World) (hx : l.length ≤ maxLen) (hb : TextsAt w a l) :
    Calls Try.prog 8 #[.slice a l.length c] w fun e w' => e = .returned (.bool true) ∧ Below w.heap.size w w' := by
  have HL := hide hb
  simp only [maxLen] at hx
  clear hb
  go_enter Try.func8, Try.ntmps8
  go_wp2_with fail
  refine (dnew_calls (base := w.heap.size) w (Nat.le_refl _) 0).mono ?_
  rintro e W1 ⟨rfl, h1, b1⟩
  obtain ⟨d, hd⟩ : ∃ d, w.heap.size + 1 = d := ⟨_, rfl⟩
  obtain ⟨M, hM⟩ : ∃ M, w.heap.size = M := ⟨_, rfl⟩
  rw [hd] at h1 ⊢
  have h1' : DiskAt w.heap.size W1 d M 0 0 [] := by rw [← hM]; exact h1
  have H1 := hide h1'
  have B1 := hide b1
  clear h1 b1 h1' hd hM
  go_wp2_with fail
  go_loopw [4, 5] (fun v i wr => ∃ (j n : Nat) (sp : Option Addr) (cc : Nat) (th : List Nm) (fs : List Fe), j ≤ l.length ∧ j ≤ 100 ∧ n ≤ j ∧ v = .slice sp n cc ∧ i = .int .i64 (j : Int) ∧ Hid (th.length = n) ∧ Hid (OwnN w.heap.size wr sp cc th) ∧ Hid (DiskAt w.heap.size wr d M 0 j fs) ∧ Hid (FInv (sps fs) th) ∧ Hid (Below w.heap.size w wr)) (fun _ i _ => l.length - (intOf i).toNat)
  case atStart => exact ⟨0, 0, none, 0, [], [], by omega, by omega, by omega, rfl, rfl, rfl, OwnN.ofNil _ _, H1, FInv.nil, B1⟩
  case round =>
    obtain ⟨j, n, sp, cc, th, fs, hj, hj100, hnj, rfl, rfl, HT, HO, HD, HF, HB⟩ := hrel
    by_cases hcd : j < l.length ∧ j < 100
    · obtain ⟨hjl, hj1⟩ := hcd
      · have y1 : (j : Int) < (l.length : Int) := by omega
        have y2 : (j : Int) < 100 := by omega
        have y0 : (0 : Int) ≤ (j : Int) := by omega
        have HS := hide ((unhide HL).sz _ (List.getElem_mem hjl))
        have PC := hide (fun (W : World) (b : Below w.heap.size w W) => ((unhide HL).later b).cell j hjl)
        obtain ⟨b, off, rfl, p0⟩ := unhide PC wr (unhide HB)
        generalize l[j] = s at *
        go_wp2_with fail
        refine (dwrite_calls (unhide HD) (unhide HB).size (by omega) s (unhide HS) 0 (by omega) none 0 0 [] rfl (Nat.le_refl _) ⟨by simp, by simp⟩ (fun _ => rfl) (fun b off e => by cases e) (by omega)).mono ?_
        rintro e W2 ⟨he, fs2, h2, g2, s2⟩
        have B2 := hide ((unhide HB).trans (DGrew.below (unhide HD) (unhide HB).size g2))
        have O2 := hide ((unhide HO).same (fun g hg => by
          obtain ⟨_, hlt, cur, hc⟩ := (unhide HO).blk_is g hg
          exact g2.block g hlt ((unhide HD).other hc (by decide) (by decide) (by decide) (by decide)).1))
        have D2 := hide h2
        have E2 := hide he
        have S2 := hide s2
        obtain ⟨r, hr⟩ : ∃ r, (dWrite 0 s.data.toList 0 [] (sps fs)).1 = r := ⟨_, rfl⟩
        rw [hr] at he
        subst he
        have HR := hide hr
        clear h2 g2 s2 E2 hr p0
        go_wp2_with fail
        go_loopw [7, 8] (fun v i wr => ∃ k : Nat, k ≤ n ∧ v = .bool (decide (s.data.toList ∈ th.take k)) ∧ i = .int .i64 (k : Int) ∧ Hid (Below W2.heap.size W2 wr)) (fun _ i _ => n - (intOf i).toNat)
        case atStart => exact ⟨0, by omega, by simp, rfl, hide (Below.refl _ _)⟩
        case round =>
          obtain ⟨k, hk, rfl, rfl, HW⟩ := hrel
          have BW := hide ((unhide B2).trans ((unhide HW).mono (unhide B2).size))
          by_cases hkn : k < n
          · have z1 : (k : Int) < (n : Int) := by omega
            have z0 : (0 : Int) ≤ (k : Int) := by omega
            have hkt : k < th.length := by rw [unhide HT]; exact hkn
            obtain ⟨g, rfl, q0⟩ := ((unhide O2).later (unhide HW)).cell k hkt
            obtain ⟨b', off', e', p1⟩ := unhide PC wr (unhide BW)
            obtain ⟨rfl, rfl⟩ : b = b' ∧ off = off' := by simpa using e'
            have TK := hide (List.take_succ_eq_append_getElem hkt)
            generalize th[k] = t at *
            cases hkn2 : decide (s.data.toList ∈ th.take k) with
            | true =>
              have N2 := hide (show decide (s.data.toList ∈ th.take (k + 1)) = true by
                rw [unhide TK]
                simp only [decide_eq_true_eq] at hkn2 ⊢
                exact List.mem_append_left _ hkn2)
              clear hkn2
              go_wp2_with fail
              go_quiet (fail)
              go_wp2
              exact ⟨⟨k + 1, by omega, by rw [unhide N2], by go_num, below_drewN (unhide HW) _⟩, by simp [intOf]; omega⟩
            | false =>
              by_cases hts : t = s.data.toList
              · have N2 := hide (show decide (s.data.toList ∈ th.take (k + 1)) = true by
                  rw [unhide TK, decide_eq_true_eq]
                  exact List.mem_append_right _ (by simp [hts]))
                rw [hts, str_of] at q0
                clear hkn2 hts
                go_wp2_with fail
                go_quiet (fail)
                go_wp2
                exact ⟨⟨k + 1, by omega, by rw [unhide N2], by go_num, below_drewN (unhide HW) _⟩, by simp [intOf]; omega⟩
              · have N2 := hide (show decide (s.data.toList ∈ th.take (k + 1)) = false by
                  rw [unhide TK]
                  simp only [decide_eq_false_iff_not, List.mem_append, List.mem_singleton, not_or] at hkn2 ⊢
                  exact ⟨hkn2, fun e => hts e.symm⟩)
                have hne : ((str t).toList == s.toList) = false := by
                  rw [ByteArray.toList_eq, ByteArray.toList_eq, str_list]; simpa using hts
                clear hkn2 hts
                go_wp2_with fail
                go_quiet (fail)
                go_wp2
                exact ⟨⟨k + 1, by omega, by rw [unhide N2], by go_num, below_drewN (unhide HW) _⟩, by simp [intOf]; omega⟩
          · obtain rfl : k = n := by omega
            have hkk : ¬ (k : Int) < (k : Int) := by omega
            have hTA : th.take k = th := List.take_of_length_le (by rw [unhide HT]; omega)
            obtain ⟨b', off', e', p1⟩ := unhide PC wr (unhide BW)
            obtain ⟨rfl, rfl⟩ : b = b' ∧ off = off' := by simpa using e'
            rw [hTA]
            clear hTA e'
            cases hnl : nameL s.data.toList with
            | false =>
              have hd := (unhide HF).bad s.data.toList hnl
              have hr : r = 14 := by rw [← unhide HR, hd]
              have F2 := hide (show FInv (sps fs2) th by rw [unhide S2, hd]; exact unhide HF)
              subst hr
              clear hd
              go_wp2_with (go_at_call 30; refine (named_calls s _ (unhide HS)).mono ?_; rintro e w' ⟨rfl, rfl⟩)
              exact ⟨⟨j + 1, k, sp, cc, th, fs2, by omega, by omega, by omega, rfl, by go_num, HT, (unhide O2).later (unhide HW), (unhide D2).later (unhide HW), unhide F2, unhide BW⟩, by simp [intOf]; omega⟩
            | true =>
              cases hkm : decide (s.data.toList ∈ th) with
              | true =>
                have hd := (unhide HF).old s.data.toList hnl (by simpa using hkm)
                have hr : r = 0 := by rw [← unhide HR, hd]
                have F2 := hide (show FInv (sps fs2) th by rw [unhide S2, hd]; exact unhide HF)
                subst hr
                clear hd hkm
                go_wp2_with (go_at_call 30; refine (named_calls s _ (unhide HS)).mono ?_; rintro e w' ⟨rfl, rfl⟩)
                exact ⟨⟨j + 1, k, sp, cc, th, fs2, by omega, by omega, by omega, rfl, by go_num, HT, (unhide O2).later (unhide HW), (unhide D2).later (unhide HW), unhide F2, unhide BW⟩, by simp [intOf]; omega⟩
              | false =>
                by_cases h16 : 16 ≤ k
                · have h16i : (16 : Int) ≤ (k : Int) := by omega
                  have hd := (unhide HF).full s.data.toList hnl (by simpa using hkm) (by rw [unhide HT]; exact h16)
                  have hr : r = 6 := by rw [← unhide HR, hd]
                  have F2 := hide (show FInv (sps fs2) th by rw [unhide S2, hd]; exact unhide HF)
                  subst hr
                  clear hd hkm
                  go_wp2_with (go_at_call 30; refine (named_calls s _ (unhide HS)).mono ?_; rintro e w' ⟨rfl, rfl⟩)
                  exact ⟨⟨j + 1, k, sp, cc, th, fs2, by omega, by omega, by omega, rfl, by go_num, HT, (unhide O2).later (unhide HW), (unhide D2).later (unhide HW), unhide F2, unhide BW⟩, by simp [intOf]; omega⟩
                · have h16i : ¬ (16 : Int) ≤ (k : Int) := by omega
                  obtain ⟨hd, hF⟩ := (unhide HF).new s.data.toList hnl (by simpa using hkm) (by rw [unhide HT]; omega)
                  have hr : r = 0 := by rw [← unhide HR, hd]
                  have F2 := hide (show FInv (sps fs2) (th ++ [s.data.toList]) by rw [unhide S2, hd]; exact hF)
                  have A2 := hide (show Below wr.heap.size wr (wr.alloc (.cells #[.string s] 9)) from (Below.refl _ _).alloc (Nat.le_refl _) _)
                  have OA := hide (((unhide O2).later (unhide HW)).later (unhide A2))
                  have DA := hide (((unhide D2).later (unhide HW)).later (unhide A2))
                  have BA := hide ((unhide BW).trans ((unhide A2).mono (unhide BW).size))
                  have XA := hide (show (wr.alloc (.cells #[.string s] 9)).heap[wr.heap.size]? = some (.cells #[.string (str s.data.toList)] 9 (0, 0)) by rw [str_of]; exact heap_new wr _)
                  subst hr
                  clear hd hkm hF
                  go_wp2_with (first
                    | (go_at_call 30; refine (named_calls s _ (unhide HS)).mono ?_; rintro e w' ⟨rfl, rfl⟩)
                    | (at_builtin; refine wpList_appendN rfl (.tmp 50) (.tmp 55) rfl w.heap.size sp k cc th rfl (unhide HT) (by exact unhide OA) w'.heap.size s.data.toList rfl (by exact unhide XA) (by omega) (unhide BA).size ?_; intro sp7 c7 V7 hO7 hG7; refine unhide ?_))
                  refine hide ?_
                  have B7 := hide (show Below w.heap.size w V7 from (unhide BA).grown hG7.grown (unhide BA).size (fun g hg => ((unhide OA).blk_is g hg).1))
                  have D7 := hide (show DiskAt w.heap.size V7 d M 0 (j + 1) fs2 from (unhide DA).same (fun g hlt hg => hG7.grown.block g hlt (fun e => by
                    obtain ⟨_, _, cur, hc⟩ := (unhide OA).blk_is g e.symm
                    have := (unhide DA).other hc (by decide) (by decide) (by decide) (by decide)
                    exact hg.elim this.1 this.2)))
                  have O7 := hide hO7
                  clear hO7 hG7
                  go_wp2
                  exact ⟨⟨j + 1, k + 1, sp7, c7, th ++ [s.data.toList], fs2, by omega, by omega, by omega, rfl, by go_num, by rw [List.length_append, unhide HT]; rfl, unhide O7, unhide D7, unhide F2, unhide B7⟩, by simp [intOf]; omega⟩
    · have TAIL := hide (dnames_calls (unhide HD))
      rcases (show ¬ j < l.length ∨ (j < l.length ∧ ¬ j < 100) by omega) with q | ⟨q, q'⟩
      · have y1 : ¬ (j : Int) < (l.length : Int) := by omega
        go_wp2_with fail
        refine (unhide TAIL).mono ?_
        rintro e W3 ⟨sp3, n3, c3, rfl, hn3, ho3, b3⟩
        have O3 := hide ho3
        have B3 := hide ((unhide HB).trans (b3.mono (unhide HB).size))
        have N3 := hide hn3
        clear ho3 b3 hn3
        go_wp2_with fail
        go_loopw [10] (fun i wr => ∃ k : Nat, 1 ≤ k ∧ k ≤ n3 + 1 ∧ i = .int .i64 (k : Int) ∧ Hid (Below W3.heap.size W3 wr)) (fun i _ => n3 + 1 - (intOf i).toNat)
        case atStart => exact ⟨1, by omega, by omega, rfl, hide (Below.refl _ _)⟩
        case round =>
          obtain ⟨k, hk1, hk2, rfl, HW⟩ := hrel
          have h16 : n3 ≤ 16 := by rw [← unhide N3]; exact (unhide HD).few
          by_cases hkn : k < n3
          · have z1 : (k : Int) < (n3 : Int) := by omega
            have z0 : (0 : Int) ≤ (k : Int) := by omega
            have zm : IntKind.i64.wrap ((k : Int) - 1) = ((k - 1 : Nat) : Int) := by rw [IntKind.wrap_i64]; omega
            have zm0 : (0 : Int) ≤ ((k - 1 : Nat) : Int) := by omega
            have zm1 : ((k - 1 : Nat) : Int) < (n3 : Int) := by omega
            have hkl : k < (fs.map (·.1)).length := by rw [List.length_map, unhide N3]; exact hkn
            obtain ⟨g, rfl, q0⟩ := ((unhide O3).later (unhide HW)).cell k hkl
            obtain ⟨g', e', q1⟩ := ((unhide O3).later (unhide HW)).cell (k - 1) (by omega)
            obtain rfl : g = g' := by simpa using e'
            have hlt : (fs.map (·.1))[k - 1] < (fs.map (·.1))[k] := by
              have h1 := List.pairwise_iff_getElem.1 (List.pairwise_map.2 (unhide HD).rise : (fs.map (·.1)).Pairwise (· < ·)) (k - 1) k (by omega) hkl (by omega)
              exact h1
            generalize (fs.map (·.1))[k] = t1 at *
            generalize (fs.map (·.1))[k - 1] = t0 at *
            have hl1 : Op.bytesLess (str t1).toList (str t0).toList = false := by
              rw [bytesLess_eq, ByteArray.toList_eq, ByteArray.toList_eq, str_list, str_list, decide_eq_false_iff_not]
              exact fun hh => nm_irrefl _ (nm_trans hlt hh)
            have hl2 : ((str t1).toList == (str t0).toList) = false := by
              rw [ByteArray.toList_eq, ByteArray.toList_eq, str_list, str_list]
              simp only [beq_eq_false_iff_ne]
              exact fun hh => nm_irrefl _ (hh ▸ hlt)
            clear hlt e'
            go_wp2_with fail
            go_quiet (fail)
            go_wp2
            exact ⟨⟨k + 1, by omega, by omega, by go_num, below_drewN (unhide HW) _⟩, by simp [intOf]; omega⟩
          · have z1 : ¬ (k : Int) < (n3 : Int) := by omega
            have BW := hide ((unhide B3).trans ((unhide HW).mono (unhide B3).size))
            have hnn : (n3 : Int) = (n : Int) := by
              have h1 := (unhide HF).len
              rw [unhide HT] at h1
              have h2 : (sps fs).length = fs.length := by simp [sps]
              rw [h2, unhide N3] at h1
              omega
            go_wp2_with fail
            refine (live5_calls _).mono ?_
            rintro e W9 ⟨rfl, b9⟩
            have B9 := hide ((unhide BW).trans (b9.mono (unhide BW).size))
            clear b9
            go_wp2
            go_ret
            exact ⟨rfl, unhide B9⟩
      · have y1 : (j : Int) < (l.length : Int) := by omega
        have y2 : ¬ (j : Int) < 100 := by omega
        go_wp2_with fail
        refine (unhide TAIL).mono ?_
        rintro e W3 ⟨sp3, n3, c3, rfl, hn3, ho3, b3⟩
        have O3 := hide ho3
        have B3 := hide ((unhide HB).trans (b3.mono (unhide HB).size))
        have N3 := hide hn3
        clear ho3 b3 hn3
        go_wp2_with fail
        go_loopw [10] (fun i wr => ∃ k : Nat, 1 ≤ k ∧ k ≤ n3 + 1 ∧ i = .int .i64 (k : Int) ∧ Hid (Below W3.heap.size W3 wr)) (fun i _ => n3 + 1 - (intOf i).toNat)
        case atStart => exact ⟨1, by omega, by omega, rfl, hide (Below.refl _ _)⟩
        case round =>
          obtain ⟨k, hk1, hk2, rfl, HW⟩ := hrel
          have h16 : n3 ≤ 16 := by rw [← unhide N3]; exact (unhide HD).few
          by_cases hkn : k < n3
          · have z1 : (k : Int) < (n3 : Int) := by omega
            have z0 : (0 : Int) ≤ (k : Int) := by omega
            have zm : IntKind.i64.wrap ((k : Int) - 1) = ((k - 1 : Nat) : Int) := by rw [IntKind.wrap_i64]; omega
            have zm0 : (0 : Int) ≤ ((k - 1 : Nat) : Int) := by omega
            have zm1 : ((k - 1 : Nat) : Int) < (n3 : Int) := by omega
            have hkl : k < (fs.map (·.1)).length := by rw [List.length_map, unhide N3]; exact hkn
            obtain ⟨g, rfl, q0⟩ := ((unhide O3).later (unhide HW)).cell k hkl
            obtain ⟨g', e', q1⟩ := ((unhide O3).later (unhide HW)).cell (k - 1) (by omega)
            obtain rfl : g = g' := by simpa using e'
            have hlt : (fs.map (·.1))[k - 1] < (fs.map (·.1))[k] := by
              have h1 := List.pairwise_iff_getElem.1 (List.pairwise_map.2 (unhide HD).rise : (fs.map (·.1)).Pairwise (· < ·)) (k - 1) k (by omega) hkl (by omega)
              exact h1
            generalize (fs.map (·.1))[k] = t1 at *
            generalize (fs.map (·.1))[k - 1] = t0 at *
            have hl1 : Op.bytesLess (str t1).toList (str t0).toList = false := by
              rw [bytesLess_eq, ByteArray.toList_eq, ByteArray.toList_eq, str_list, str_list, decide_eq_false_iff_not]
              exact fun hh => nm_irrefl _ (nm_trans hlt hh)
            have hl2 : ((str t1).toList == (str t0).toList) = false := by
              rw [ByteArray.toList_eq, ByteArray.toList_eq, str_list, str_list]
              simp only [beq_eq_false_iff_ne]
              exact fun hh => nm_irrefl _ (hh ▸ hlt)
            clear hlt e'
            go_wp2_with fail
            go_quiet (fail)
            go_wp2
            exact ⟨⟨k + 1, by omega, by omega, by go_num, below_drewN (unhide HW) _⟩, by simp [intOf]; omega⟩
          · have z1 : ¬ (k : Int) < (n3 : Int) := by omega
            have BW := hide ((unhide B3).trans ((unhide HW).mono (unhide B3).size))
            have hnn : (n3 : Int) = (n : Int) := by
              have h1 := (unhide HF).len
              rw [unhide HT] at h1
              have h2 : (sps fs).length = fs.length := by simp [sps]
              rw [h2, unhide N3] at h1
              omega
            go_wp2_with fail
            refine (live5_calls _).mono ?_
            rintro e W9 ⟨rfl, b9⟩
            have B9 := hide ((unhide BW).trans (b9.mono (unhide BW).size))
            clear b9
            go_wp2
            go_ret
            exact ⟨rfl, unhide B9⟩

set_option maxRecDepth 100000 in
theorem lifted (os : Os) (started : os.Started) (H : Type) (enc : TypeId × Value → H) :
    ReturnsInHanded {} Try.checked os 8 .any (Rows.diskFilesSpec.pre6 enc Try.prog Try.f8 Rows.diskFilesRow.domain false) (Rows.diskFilesSpec.post enc Try.prog Try.f8 false true false false) := by
  refine returnsInHanded_of_change_sized (C := Try.checked) own started (by kernel_rfl) Try.func8
    (ChangeSpec.witness6 (enc := enc) (C := Try.checked) false ⟨#[], #[.slice none 0 0], []⟩ 8 (by kernel_rfl) (by kernel_rfl) (by kernel_rfl) (by kernel_rfl)) ?_
  intro W base args ds gs before hval0 hW hcnd hsz _
  have hval : ∀ (j : Nat) t v, Try.f8.params[j]? = some t → args[j]? = some v → Value.okWide Try.prog W .any base t v := hval0
  have hW' := hW
  obtain ⟨p, q, hA0, hV, rfl, hfz, hnd⟩ := hW
  have hA : DataW.TrodAll enc Try.prog W 0 (fun _ => true) true Try.f8.params.toList args.toList ds p := hA0
  rw [Try.params8] at hA hval
  obtain ⟨v0, vs0, d0, ds0, p0, q0, hargs, rfl, rfl, h0, r0⟩ := trodAll_cons hA
  obtain ⟨rfl, rfl, rfl⟩ := trodAll_nil r0
  obtain rfl : args = #[v0] := by cases args; simp_all
  obtain ⟨rfl, rfl⟩ := trodVars_none hV
  obtain ⟨a0, len0, c0, rfl⟩ := okWide_slice Try.underlying47 (hval 0 47 v0 rfl rfl)
  have k0 := h0
  have lt0 : ∀ x ∈ p0, x.block < W.heap.size := by obtain ⟨m, hm⟩ := k0; exact DataW.trod_lt m _ _ _ hm
  obtain ⟨l0, rfl, hx0, hb0⟩ := texts_arg h0
  clear hA0 hval0
  refine (walk a0 c0 l0 W hx0 hb0).mono fun e W' ⟨he, bel⟩ => ?_
  subst he
  exact ⟨_, rfl, _, _, _, [], _, [], hW', trodAll_mk1 (shut_bool Try.underlying4 _), (trodAll_cons_mk (Below.trod laidOut (by kernel_rfl) (of_decide_eq_true (by kernel_rfl)) k0 bel lt0) trodAll_mk0), rfl, bel.frame _, fun h => by cases h⟩

theorem proved : Rows.DiskFilesSaid :=
  OpenClaim.holds_of_wide 8 Try.f8 rfl rfl rfl rfl rfl rfl rfl ⟨rfl, rfl, rfl, rfl, rfl⟩ rfl rfl rfl rfl rfl (by kernel_rfl) Try.func8 (by kernel_rfl)
    (of_decide_eq_true (by kernel_rfl)) (by unfold Func.isWrapper; first | (rw [if_pos (by decide +kernel)]; kernel_rfl) | (rw [if_neg (by decide +kernel)]; exact ⟨rfl, rfl⟩))
    (fun os started H enc _ => lifted os started H enc)
end Go.Proofs.Ytinmfbellefbhaa.diskFiles
namespace Go.Proofs.Ytinmfbellefbhaa
theorem diskFiles_holds : Rows.DiskFilesSaid := diskFiles.proved
#print axioms diskFiles_holds
end Go.Proofs.Ytinmfbellefbhaa
