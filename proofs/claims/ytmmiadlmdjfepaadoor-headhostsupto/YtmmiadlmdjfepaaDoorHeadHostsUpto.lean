/- A head without a host, or with two, is none: tollgatelaw09.HeadHosts answers true, for all heads of the bound of the second form. The tables of the library's are as the card ties them (lz_of; head_nil0: a head's fields that are nil). -/
import Derived.Test.YtmmiadlmdjfepaaDoorHh2
import Derived.Test.YtmmiadlmdjfepaaDoorHw1
import Derived.Test.YtmmiadlmdjfepaaDoorLzu
import Derived.Test.YtmmiadlmdjfepaaDoorHdf
import Derived.Test.YtmmiadlmdjfepaaDoorTie
import Derived.Test.YtmmiadlmdjfepaaDoorCards
import Derived.Lay
import Derived.MakeChecks
import Derived.SevenTiedAt
import Derived.Stop.Joined
import Derived.Test.YtmmiadlmdjfepaaDoorBulk
import Derived.JoinedCond
namespace Go.Proofs.YtmmiadlmdjfepaaDoor.headHostsUpto
open Go.ChangeShapes Go.WideShapes Go.ChangeAt Go.RowKit
set_option linter.unusedVariables false

theorem own : ownKnob Tryd.prog.godebug = none := by kernel_rfl
theorem laidOut : laidOutB Tryd.prog = true := by kernel_rfl

theorem le47 {h : Hd} (hl : HdLe 1048576 h) : HdLe 140737488355328 h := hl.mono (by decide)
theorem wr47 {h : Hd} (hl : HdLe 1048576 h) : h.fields.length ≤ 32 → (writtenL h).length ≤ 140737488355328 := fun hk => by
  have := written_bound hl 32 hk
  omega
theorem firstS (m p : Tx) : ((stS m ++ (⟨#[32]⟩ : ByteArray)) ++ stS p) ++ (⟨#[32, 72, 84, 84, 80, 47, 49, 46, 49, 13, 10]⟩ : ByteArray) = stS (m ++ 32 :: (p ++ 32 :: versionL) ++ crlf) := by
  rw [show (⟨#[32]⟩ : ByteArray) = stS [32] from rfl, show (⟨#[32, 72, 84, 84, 80, 47, 49, 46, 49, 13, 10]⟩ : ByteArray) = stS (32 :: (versionL ++ crlf)) from rfl, stS_app, stS_app, stS_app]
  congr 1
  simp
theorem lineS (a n v : Tx) : stS a ++ (((stS n ++ (⟨#[58]⟩ : ByteArray)) ++ stS v) ++ (⟨#[13, 10]⟩ : ByteArray)) = stS (a ++ (lineG ⟨n, v⟩ ++ crlf)) := by
  rw [show (⟨#[58]⟩ : ByteArray) = stS [58] from rfl, show (⟨#[13, 10]⟩ : ByteArray) = stS crlf from rfl, stS_app, stS_app, stS_app, stS_app]
  congr 2
  simp [lineG]
theorem got_bad {t : Tx} {n : Nat} {e : Ending} {W : World} (hp : parseL t = .bad n) (hr : ParseRes t e W) : e = .returned (.tuple #[.agg #[.string ⟨#[]⟩, .string ⟨#[]⟩, .string ⟨#[]⟩, .string ⟨#[]⟩, .slice none 0 0], .int .i64 0, .int .i64 (n : Int)]) := by
  unfold ParseRes at hr
  rw [hp] at hr
  exact hr
theorem sub_le {h : Hd} (hl : HdLe 1048576 h) (fs : List Fd) (h1 : fs.length ≤ 1048576) (h2 : ∀ f ∈ fs, f ∈ h.fields) : HdLe 1048576 ⟨h.method, h.path, h.query, h.host, fs⟩ := ⟨hl.m, hl.p, hl.q, hl.x, h1, fun f hf => hl.f.2 f (h2 f hf)⟩
set_option maxRecDepth 20000 in
set_option maxHeartbeats 16000000 in
theorem walk (h : Hd) (sp : Option Addr) (c : Nat) (w : World) (hF : FdsAt w sp h.fields) (hl : HdLe 1048576 h) (hz0 : sp = none → c = 0) (hLz : Lz w) :
    Calls Tryd.prog 9 #[hdVal h sp c] w fun e w' => e = .returned (.bool true) ∧ Below w.heap.size w w' := by
  have B1 := hide (show Below w.heap.size w (w.alloc (.cells #[.string (stS h.method), .string (stS h.path), .string (stS h.query), .string (stS h.host), .slice sp h.fields.length c] 25)) from (Below.refl _ _).alloc (Nat.le_refl _) _)
  have X1 := hide (heap_new w (.cells #[.string (stS h.method), .string (stS h.path), .string (stS h.query), .string (stS h.host), .slice sp h.fields.length c] 25))
  have k0 := box_cell (unhide X1) 0 _ rfl
  have k1 := box_cell (unhide X1) 1 _ rfl
  have k2 := box_cell (unhide X1) 2 _ rfl
  have k3 := box_cell (unhide X1) 3 _ rfl
  have k4 := box_cell (unhide X1) 4 _ rfl
  have LV := hide (show ∀ U, Below w.heap.size w U → Calls Tryd.prog 12 #[] U fun e w' => e = .returned (.bool true) ∧ Below U.heap.size U w' from fun U hb => live9_calls U (hLz.later hb))
  have WC := hide (fun U (hu : Below w.heap.size w U) => write_calls h sp c U (hF.later hu) (le47 hl) (wr47 hl))
  cases hw : writeL h with
  | bad n =>
    have WC2 := hide (show ∀ U, Below w.heap.size w U → Calls Tryd.prog 14 #[hdVal h sp c] U fun e w' => e = .returned (.tuple #[.slice none 0 0, .int .i64 (n : Int)]) ∧ Below U.heap.size U w' from fun U hu => (unhide WC U hu).mono fun e w' he => by
      obtain ⟨h1, h2⟩ := he
      unfold WriteEnd at h1
      rw [hw] at h1
      exact ⟨h1, h2⟩)
    have hn : n = 4 ∨ n = 6 := by
      unfold writeL at hw
      split at hw
      · split at hw
        · cases hw; exact .inr rfl
        · split at hw
          · cases hw; exact .inr rfl
          · cases hw
      · cases hw; exact .inl rfl
    clear hw WC hF hl hLz
    unfold hdVal at WC2 ⊢
    rcases hn with rfl | rfl
    all_goals
      go_enter Tryd.func9, Tryd.ntmps9
      go_wp2_with (first
        | (go_at_call 14; refine (unhide WC2 _ (unhide B1)).mono ?_; rintro e W1 ⟨rfl, hb1⟩; have H1 := chain B1 hb1)
        | (go_at_call 12; refine (unhide LV _ (unhide H1)).mono ?_; rintro e W2 ⟨rfl, hb2⟩; have H2 := chain H1 hb2))
      go_ret
      exact ⟨rfl, unhide H2⟩
  | ok b =>
    obtain ⟨hmb, hf32, hw20, rfl⟩ := write_ok hw
    have WC2 := hide (show ∀ U, Below w.heap.size w U → Calls Tryd.prog 14 #[hdVal h sp c] U fun e w' => (∃ g q, e = .returned (.tuple #[.slice (some ⟨g, 0, none⟩) (writtenL h).length q, .int .i64 0])) ∧ Below U.heap.size U w' from fun U hu => (unhide WC U hu).mono fun e w' he => by
      obtain ⟨h1, h2⟩ := he
      unfold WriteEnd at h1
      rw [hw] at h1
      obtain ⟨g, q, h3, _⟩ := h1
      exact ⟨⟨g, q, h3⟩, h2⟩)
    obtain ⟨fh, hfh⟩ := one_of hmb.x
    have hwpos : 0 < (writtenL h).length := by rw [written_len]; omega
    have hwpi : (0 : Int) < ((writtenL h).length : Int) := by omega
    have P3 := hide (without_bad hmb hw20 h.fields.length (Nat.le_refl _))
    have P4 := hide (two_bad hmb h.fields.length (Nat.le_refl _))
    have SL := hide (fun j => Nat.le_trans (sTx_le h j) hw20)
    have WN := hide (show ∀ U nsp nc, FdsAt U nsp (nonH h.fields) → Calls Tryd.prog 14 #[hdVal ⟨h.method, h.path, h.query, h.host, nonH h.fields⟩ nsp nc] U fun e w' => e = .returned (.tuple #[.slice none 0 0, .int .i64 4]) ∧ Below U.heap.size U w' from fun U nsp nc hf => by
      have hsub := sub_le hl (nonH h.fields) (Nat.le_trans (List.length_filter_le _ _) hl.f.1) (fun f hf => (List.mem_filter.1 hf).1)
      refine (write_calls ⟨h.method, h.path, h.query, h.host, nonH h.fields⟩ nsp nc U hf (le47 hsub) (wr47 hsub)).mono fun e w' he => ?_
      obtain ⟨h1, h2⟩ := he
      unfold WriteEnd at h1
      rw [none_bad h _ _ _ _ _ (hostOf_none h.fields)] at h1
      exact ⟨h1, h2⟩)
    have WT := hide (show ∀ U nsp nc, FdsAt U nsp (h.fields ++ hostsOf h.fields) → Calls Tryd.prog 14 #[hdVal ⟨h.method, h.path, h.query, h.host, h.fields ++ hostsOf h.fields⟩ nsp nc] U fun e w' => e = .returned (.tuple #[.slice none 0 0, .int .i64 4]) ∧ Below U.heap.size U w' from fun U nsp nc hf => by
      have hsub := sub_le hl (h.fields ++ hostsOf h.fields) (by rw [List.length_append, hfh]; simp; omega) (fun f hf => by
        rcases List.mem_append.1 hf with hf | hf
        · exact hf
        · exact (List.mem_filter.1 hf).1)
      refine (write_calls ⟨h.method, h.path, h.query, h.host, h.fields ++ hostsOf h.fields⟩ nsp nc U hf (le47 hsub) (wr47 hsub)).mono fun e w' he => ?_
      obtain ⟨h1, h2⟩ := he
      unfold WriteEnd at h1
      rw [none_bad h _ _ _ _ _ (hostOf_two h.fields fh hfh)] at h1
      exact ⟨h1, h2⟩)
    have HLZ := hide (show ∀ U, Below w.heap.size w U → Lz U from fun U hu => hLz.later hu)
    have HZ := hide hl.f.2
    have HF := hide hF
    have HZ0 := hide hz0
    have smz : (stS h.method).size ≤ 1048576 := hl.m
    have spz : (stS h.path).size ≤ 1048576 := hl.p
    have S0 := hide (show ((stS h.method ++ (⟨#[32]⟩ : ByteArray)) ++ stS h.path) ++ (⟨#[32, 72, 84, 84, 80, 47, 49, 46, 49, 13, 10]⟩ : ByteArray) = stS (sTx h 0) by rw [firstS]; unfold sTx firstG; simp [endedL, nonH])
    clear hw WC hF hl hLz hz0 hmb hfh hw20 hwpos
    generalize hwl : (writtenL h).length = wl at *
    clear hwl
    unfold hdVal at WC2 WN WT ⊢
    generalize hnn : h.fields.length = n at *
    have HN := hide hnn
    clear hnn
    go_enter Tryd.func9, Tryd.ntmps9
    go_wp2_with fail
    refine (unhide WC2 _ (unhide B1)).mono ?_
    rintro e W1 ⟨⟨g1, q1, rfl⟩, hb1⟩
    have H1 := chain B1 hb1
    have p0 := cell_later hb1 k0
    have p1 := cell_later hb1 k1
    have p2 := cell_later hb1 k2
    have p3 := cell_later hb1 k3
    have p4 := cell_later hb1 k4
    have hN0 : w.heap.size < W1.heap.size := Nat.lt_of_lt_of_le (Array.getElem?_eq_some_iff.1 (unhide X1)).1 hb1.size
    clear k0 k1 k2 k3 k4 hb1 X1 B1 WC2
    generalize hsm : stS h.method = sm at *
    generalize hspa : stS h.path = spa at *
    generalize stS h.query = sq at *
    generalize stS h.host = sx at *
    have bA : Below W1.heap.size W1 (W1.alloc (.cells #[.string sm, .string spa, .string sq, .string sx, .slice none 0 0] 25)) := (Below.refl _ _).alloc (Nat.le_refl _) _
    have sA : (W1.alloc (.cells #[.string sm, .string spa, .string sq, .string sx, .slice none 0 0] 25)).heap.size = W1.heap.size + 1 := by simp
    have bB := bA.alloc bA.size (.cells #[.string sm, .string spa, .string sq, .string sx, .slice sp n c] 25)
    have sB : ((W1.alloc (.cells #[.string sm, .string spa, .string sq, .string sx, .slice none 0 0] 25)).alloc (.cells #[.string sm, .string spa, .string sq, .string sx, .slice sp n c] 25)).heap.size = W1.heap.size + 2 := by simp
    have xN : ((W1.alloc (.cells #[.string sm, .string spa, .string sq, .string sx, .slice none 0 0] 25)).alloc (.cells #[.string sm, .string spa, .string sq, .string sx, .slice sp n c] 25)).heap[W1.heap.size]? = some (.cells #[.string sm, .string spa, .string sq, .string sx, .slice none 0 0] 25 (0, 0)) := by rw [Below.heap_alloc _ _ _ (by simp)]; exact heap_new _ _
    have xT : ((W1.alloc (.cells #[.string sm, .string spa, .string sq, .string sx, .slice none 0 0] 25)).alloc (.cells #[.string sm, .string spa, .string sq, .string sx, .slice sp n c] 25)).heap[W1.heap.size + 1]? = some (.cells #[.string sm, .string spa, .string sq, .string sx, .slice sp n c] 25 (0, 0)) := by rw [← sA]; exact heap_new _ _
    have oC := hide (OwnFd.empty ((W1.alloc (.cells #[.string sm, .string spa, .string sq, .string sx, .slice none 0 0] 25)).alloc (.cells #[.string sm, .string spa, .string sq, .string sx, .slice sp n c] 25)) (W1.heap.size + 2) (by rw [sB]; exact Nat.le_refl _))
    have bC := bB.alloc bB.size (.cells #[] 43)
    have xN2 := hide (later_block ((Below.refl _ _).alloc (Nat.le_refl _) (.cells #[] 43)) xN)
    have xT2 := hide (later_block ((Below.refl _ _).alloc (Nat.le_refl _) (.cells #[] 43)) xT)
    have C4 := hide (show (((W1.alloc (.cells #[.string sm, .string spa, .string sq, .string sx, .slice none 0 0] 25)).alloc (.cells #[.string sm, .string spa, .string sq, .string sx, .slice sp n c] 25)).alloc (.cells #[] 43)).heap.size = W1.heap.size + 3 by simp)
    have BC := hide bC
    rw [sB] at oC
    have c4 := cell_later bC p4
    have c0 := cell_later bC p0
    have c1 := cell_later bC p1
    clear bA bB bC sA sB xN xT
    go_wp2_with (at_builtin; refine unhide ?_)
    refine hide ?_
    generalize ((W1.alloc (.cells #[.string sm, .string spa, .string sq, .string sx, .slice none 0 0] 25)).alloc (.cells #[.string sm, .string spa, .string sq, .string sx, .slice sp n c] 25)).alloc (.cells #[] 43) = WC at *
    refine wpList_appendFdG rfl (.tmp 31) (.tmp 33) rfl (W1.heap.size + 2) (some ⟨W1.heap.size + 2, 0, none⟩) 0 0 [] rfl rfl (unhide oC) sp n c h.fields rfl (unhide HN) ((unhide HF).later ((unhide H1).trans ((unhide BC).mono (unhide H1).size))) (unhide HZ0) (by omega) (by rw [unhide C4]; omega) ?_
    intro sp2 c2 W2 ho2 hg2 hl2
    rw [Nat.zero_add]
    rw [List.nil_append] at ho2
    have hlt2 := (unhide oC).blk_lt
    have b2 : Below (W1.heap.size + 2) WC W2 := grownB hg2 (by rw [unhide C4]; omega) (fun g hg => ((unhide oC).blk_lt g hg).1)
    have r1 := (b2.block W1.heap.size (by omega)).trans (unhide xN2)
    have r2 := (b2.block (W1.heap.size + 1) (by omega)).trans (unhide xT2)
    have u4 := box_cell r2 4 _ rfl
    have uf : W2.frozen? ⟨W1.heap.size + 1, 4, none⟩ = false := by simp [World.frozen?, r2]
    have hk2 : ∀ g, g ≠ W1.heap.size + 1 → (W2.setCell ⟨W1.heap.size + 1, 4, none⟩ (.slice sp2 n c2)).heap[g]? = W2.heap[g]? := fun g hg => setO W2 (W1.heap.size + 1) 4 g _ hg
    have J0 := hide (show TwoH W1 W1.heap.size (.string sm) (.string spa) (.string sq) (.string sx) (W2.setCell ⟨W1.heap.size + 1, 4, none⟩ (.slice sp2 n c2)) none 0 [] sp2 c2 h.fields from
      ⟨((unhide BC).trans (b2.mono (by omega))).setCell (p := ⟨W1.heap.size + 1, 4, none⟩) (Nat.le_succ _) _, Nat.le_refl _, (hk2 _ (by omega)).trans r1, by rw [unhide HN]; exact heap_setCell_same W2 (W1.heap.size + 1) 4 _ _ _ r2, OwnFd.ofNil _ _, ho2.same (fun g h1 _ => hk2 g (by omega)), fun g h1 => by cases h1⟩)
    have v0 := cell_later (unhide J0).bel p0
    have v1 := cell_later (unhide J0).bel p1
    clear b2 r1 r2 hk2 ho2 hg2 hl2 hlt2 oC xN2 xT2 C4 c0 c1 c4
    go_wp2_with fail
    clear u4 uf v0 v1 BC
    generalize W2.setCell ⟨W1.heap.size + 1, 4, none⟩ (.slice sp2 n c2) = W3 at *
    subst hsm hspa
    go_loopw [7, 8] (fun s i wr => ∃ (j : Nat) (nsp : Option Addr) (nc : Nat) (tsp : Option Addr) (tc : Nat), j ≤ n ∧ s = .string (stS (sTx h j)) ∧ i = .int .i64 (j : Int) ∧ Hid (TwoH W1 W1.heap.size (.string (stS h.method)) (.string (stS h.path)) (.string sq) (.string sx) wr nsp nc (nonH (h.fields.take j)) tsp tc (h.fields ++ hostsOf (h.fields.take j)))) (fun _ i _ => n - (intOf i).toNat)
    case atStart => exact ⟨0, none, 0, sp2, c2, by omega, by rw [← unhide S0], rfl, hide (by have := unhide J0; rwa [← List.append_nil h.fields] at this)⟩
    case round =>
      obtain ⟨j, nsp, nc, tsp, tc, hj, rfl, rfl, J⟩ := hrel
      have v4 := cell_later (unhide J).bel p4
      have hsl := unhide SL j
      have hss : (stS (sTx h j)).size ≤ 2046 := by rw [stS_size]; omega
      by_cases hjn : j < n
      · have y0 : (0 : Int) ≤ (j : Int) := by omega
        have y1 : (j : Int) < (n : Int) := by omega
        have hjl : j < h.fields.length := by rw [unhide HN]; exact hjn
        have FB := hide (show Below w.heap.size w wr from (unhide H1).trans ((unhide J).bel.mono (unhide H1).size))
        obtain ⟨gg, oo, rfl, q0, q1'⟩ := unhide HF j hjl
        have a0 := cell_later (unhide FB) q0
        have a1 := cell_later (unhide FB) q1'
        have hz := unhide HZ _ (List.getElem_mem hjl)
        have NS := hide (nonH_step h.fields j hjl)
        have HS := hide (seen_step h.fields j hjl)
        have T1 := hide (fun e => sTx_host h j hjl e)
        have T2 := hide (fun e => sTx_other h j hjl e)
        have hw : IntKind.i64.wrap ((j : Int) + 1) = ((j + 1 : Nat) : Int) := by rw [IntKind.wrap_i64]; omega
        clear q0 q1'
        generalize h.fields[j] = t at *
        obtain ⟨tn, tv⟩ := t
        simp only at a0 a1 hz NS HS T1 T2
        obtain ⟨hz1, hz2⟩ := hz
        have zn : (stS tn).size ≤ 1048576 := hz1
        have zv : (stS tv).size ≤ 1048576 := hz2
        have hhe := host_eq (stS tn)
        rw [stS_list] at hhe
        have bA : Below wr.heap.size wr (wr.alloc (.cells #[.string (stS tn), .string (stS tv)] 43)) := (Below.refl _ _).alloc (Nat.le_refl _) _
        have xA := heap_new wr (.cells #[.string (stS tn), .string (stS tv)] 43)
        have sA : (wr.alloc (.cells #[.string (stS tn), .string (stS tv)] 43)).heap.size = wr.heap.size + 1 := by simp
        have d0 := box_cell xA 0 _ rfl
        have d1 := box_cell xA 1 _ rfl
        have bB := bA.alloc bA.size (.cells #[.string (stS tn), .string (stS tv)] 43)
        have JA := hide ((unhide J).later bA)
        have JB := hide ((unhide J).later bB)
        have xB := hide (show ((wr.alloc (.cells #[.string (stS tn), .string (stS tv)] 43)).alloc (.cells #[.string (stS tn), .string (stS tv)] 43)).heap[wr.heap.size + 1]? = some (.cells #[.string (stS tn), .string (stS tv)] 43 (0, 0)) by rw [← sA]; exact heap_new _ _)
        have xA2 := hide (show ((wr.alloc (.cells #[.string (stS tn), .string (stS tv)] 43)).alloc (.cells #[.string (stS tn), .string (stS tv)] 43)).heap[wr.heap.size]? = some (.cells #[.string (stS tn), .string (stS tv)] 43 (0, 0)) by rw [Below.heap_alloc _ _ _ (by simp)]; exact xA)
        have n4 := box_cell (unhide JA).rn 4 _ rfl
        have t4 := box_cell (unhide JA).rt 4 _ rfl
        have hnl : (nonH (h.fields.take j)).length ≤ 1048576 := Nat.le_trans (List.length_filter_le _ _) (by rw [List.length_take]; omega)
        have htl : (h.fields ++ hostsOf (h.fields.take j)).length ≤ 2097152 := by
          rw [List.length_append, unhide HN]
          have : (hostsOf (h.fields.take j)).length ≤ (h.fields.take j).length := List.length_filter_le _ _
          rw [List.length_take] at this
          omega
        clear bA bB xA sA
        obtain ⟨nk, hnk⟩ : ∃ nk, nk = (nonH (h.fields.take j)).length := ⟨_, rfl⟩
        obtain ⟨tk, htk⟩ : ∃ tk, tk = (h.fields ++ hostsOf (h.fields.take j)).length := ⟨_, rfl⟩
        have HNK := hide hnk
        have HTK := hide htk
        rw [← hnk] at n4 hnl
        rw [← htk] at t4 htl
        clear hnk htk
        cases hhn : (tn == hostName) with
        | true =>
          rw [hhn] at hhe
          have E1 := hide (show nonH (h.fields.take (j + 1)) = nonH (h.fields.take j) by rw [unhide NS, hhn]; rfl)
          have E2 := hide (show h.fields ++ hostsOf (h.fields.take (j + 1)) = (h.fields ++ hostsOf (h.fields.take j)) ++ [⟨tn, tv⟩] by rw [unhide HS, hhn, List.append_assoc]; rfl)
          have E3 := hide (unhide T1 hhn)
          clear hhn T1 T2 NS HS
          go_wp2_with (at_builtin; refine unhide ?_)
          refine hide ?_
          generalize (wr.alloc (.cells #[.string (stS tn), .string (stS tv)] 43)).alloc (.cells #[.string (stS tn), .string (stS tv)] 43) = WB at *
          refine wpList_appendFdG rfl (.tmp 59) (.tmp 61) rfl (W1.heap.size + 2) tsp tk tc (h.fields ++ hostsOf (h.fields.take j)) rfl (unhide HTK).symm (unhide JB).ot (some ⟨wr.heap.size + 1, 0, none⟩) 1 1 [⟨tn, tv⟩] rfl rfl (fds_block (unhide xB)) (fun e => by cases e) (by omega) (unhide JB).sz ?_
          intro sp6 c6 W6 ho6 hg6 hl6
          have J6 := hide ((unhide JB).second ho6 hg6 hl6)
          have b6 : Below (W1.heap.size + 2) WB W6 := grownB hg6 (unhide JB).sz (fun g hg => ((unhide JB).ot.blk_lt g hg).1)
          have r2 := (b6.block (W1.heap.size + 1) (by omega)).trans (unhide JB).rt
          have u4 := box_cell r2 4 _ rfl
          have uf : W6.frozen? ⟨W1.heap.size + 1, 4, none⟩ = false := by simp [World.frozen?, r2]
          have HL6 := hide (show ((h.fields ++ hostsOf (h.fields.take j)) ++ [(⟨tn, tv⟩ : Fd)]).length = tk + 1 by rw [List.length_append, ← unhide HTK]; rfl)
          rw [unhide HL6] at J6
          clear ho6 hg6 hl6 b6 r2
          go_wp2
          go_roundw
          case rel => exact ⟨j + 1, nsp, nc, sp6, c6, by omega, by rw [unhide E3], by first | rfl | (rw [hw]), hide (by rw [unhide E1, unhide E2]; exact unhide J6)⟩
          case measure => simp [intOf]; omega
        | false =>
          rw [hhn] at hhe
          have E1 := hide (show nonH (h.fields.take (j + 1)) = nonH (h.fields.take j) ++ [⟨tn, tv⟩] by rw [unhide NS, hhn]; rfl)
          have E2 := hide (show h.fields ++ hostsOf (h.fields.take (j + 1)) = h.fields ++ hostsOf (h.fields.take j) by rw [unhide HS, hhn]; rfl)
          have E3 := hide (show stS (sTx h j) ++ (((stS tn ++ (⟨#[58]⟩ : ByteArray)) ++ stS tv) ++ (⟨#[13, 10]⟩ : ByteArray)) = stS (sTx h (j + 1)) by rw [lineS, unhide T2 hhn])
          clear hhn T1 T2 NS HS
          go_wp2_with (at_builtin; refine unhide ?_)
          refine hide ?_
          generalize (wr.alloc (.cells #[.string (stS tn), .string (stS tv)] 43)).alloc (.cells #[.string (stS tn), .string (stS tv)] 43) = WB at *
          refine wpList_appendFdG rfl (.tmp 65) (.tmp 67) rfl (W1.heap.size + 2) nsp nk nc (nonH (h.fields.take j)) rfl (unhide HNK).symm (unhide JB).on (some ⟨wr.heap.size + 1, 0, none⟩) 1 1 [⟨tn, tv⟩] rfl rfl (fds_block (unhide xB)) (fun e => by cases e) (by omega) (unhide JB).sz ?_
          intro sp6 c6 W6 ho6 hg6 hl6
          have J6 := hide ((unhide JB).first ho6 hg6 hl6)
          have b6 : Below (W1.heap.size + 2) WB W6 := grownB hg6 (unhide JB).sz (fun g hg => ((unhide JB).on.blk_lt g hg).1)
          have r2 := (b6.block W1.heap.size (by omega)).trans (unhide JB).rn
          have u4 := box_cell r2 4 _ rfl
          have uf : W6.frozen? ⟨W1.heap.size, 4, none⟩ = false := by simp [World.frozen?, r2]
          have HL6 := hide (show (nonH (h.fields.take j) ++ [(⟨tn, tv⟩ : Fd)]).length = nk + 1 by rw [List.length_append, ← unhide HNK]; rfl)
          rw [unhide HL6] at J6
          have hbx : blk nsp ≠ some wr.heap.size := fun e => by
            have h1 := (unhide J).on.blk_lt wr.heap.size e
            omega
          have xf := hide ((hg6.block wr.heap.size (Array.getElem?_eq_some_iff.1 (unhide xA2)).1 (fun e => hbx e.symm)).trans (unhide xA2))
          have hneq : wr.heap.size ≠ W1.heap.size := by have := (unhide J).sz; omega
          have xg := (setO W6 W1.heap.size 4 wr.heap.size (.slice sp6 (nk + 1) c6) hneq).trans (unhide xf)
          have f0 := box_cell xg 0 _ rfl
          have f1 := box_cell xg 1 _ rfl
          clear ho6 hg6 hl6 b6 r2 hbx xg hneq d0 d1
          go_wp2
          go_roundw
          case rel => exact ⟨j + 1, sp6, c6, tsp, tc, by omega, by rw [← unhide E3], by first | rfl | (rw [hw]), hide (by rw [unhide E1, unhide E2]; exact unhide J6)⟩
          case measure => simp [intOf]; omega
      · obtain rfl : j = n := by omega
        have hjj : ¬ (j : Int) < (j : Int) := by omega
        have ET : h.fields.take j = h.fields := List.take_of_length_le (by rw [unhide HN]; exact Nat.le_refl _)
        rw [ET] at J
        have FB := hide (show Below w.heap.size w wr from (unhide H1).trans ((unhide J).bel.mono (unhide H1).size))
        obtain ⟨nk, hnk⟩ : ∃ nk, nk = (nonH h.fields).length := ⟨_, rfl⟩
        obtain ⟨tk, htk⟩ : ∃ tk, tk = (h.fields ++ hostsOf h.fields).length := ⟨_, rfl⟩
        rw [← hnk] at WN
        rw [← htk] at WT
        have a0 := box_cell (unhide J).rn 0 _ rfl
        have a1 := box_cell (unhide J).rn 1 _ rfl
        have a2 := box_cell (unhide J).rn 2 _ rfl
        have a3 := box_cell (unhide J).rn 3 _ rfl
        have a4 := box_cell (unhide J).rn 4 _ rfl
        have b0 := box_cell (unhide J).rt 0 _ rfl
        have b1 := box_cell (unhide J).rt 1 _ rfl
        have b2 := box_cell (unhide J).rt 2 _ rfl
        have b3 := box_cell (unhide J).rt 3 _ rfl
        have b4 := box_cell (unhide J).rt 4 _ rfl
        rw [← hnk] at a4
        rw [← htk] at b4
        have FN := hide (unhide J).on.at_
        have FT := hide (unhide J).ot.at_
        have G1 := hide (show stS (sTx h j) ++ (⟨#[13, 10]⟩ : ByteArray) = stS (sTx h j ++ crlf) by rw [show (⟨#[13, 10]⟩ : ByteArray) = stS crlf from rfl, stS_app])
        have G2 := hide (show stS (sTx h j) ++ (⟨#[72, 111, 115, 116, 58, 32, 97, 13, 10, 104, 111, 115, 116, 58, 32, 97, 13, 10, 13, 10]⟩ : ByteArray) = stS (sTx h j ++ twoHosts) by rw [show (⟨#[72, 111, 115, 116, 58, 32, 97, 13, 10, 104, 111, 115, 116, 58, 32, 97, 13, 10, 13, 10]⟩ : ByteArray) = stS twoHosts from rfl, stS_app])
        have zs : (stS (sTx h j)).size = (sTx h j).length := rfl
        have Z1 := hide (show ∀ U, Below w.heap.size w U → ∃ cc V, (convert 9 22 (.string (stS (sTx h j) ++ (⟨#[13, 10]⟩ : ByteArray)))).run Tryd.prog U = .ok (.slice (some ⟨U.heap.size, 0, none⟩) ((sTx h j).length + 2) cc) V ∧ Below U.heap.size U V ∧ Calls Tryd.prog 10 #[.slice (some ⟨U.heap.size, 0, none⟩) ((sTx h j).length + 2) cc] V fun e w' => e = .returned (.tuple #[.agg #[.string ⟨#[]⟩, .string ⟨#[]⟩, .string ⟨#[]⟩, .string ⟨#[]⟩, .slice none 0 0], .int .i64 0, .int .i64 4]) ∧ Below V.heap.size V w' from fun U hU => by
          obtain ⟨cc, V, h1, h2, h3, h4⟩ := conv_bytes U (stS (sTx h j) ++ (⟨#[13, 10]⟩ : ByteArray))
          have hz : (stS (sTx h j) ++ (⟨#[13, 10]⟩ : ByteArray)).size = (sTx h j).length + 2 := by rw [unhide G1, stS_size, List.length_append]; rfl
          have h5 := parseB_calls U V (stS (sTx h j) ++ (⟨#[13, 10]⟩ : ByteArray)) U.heap.size cc h2 h3 (unhide HLZ V (hU.trans (h4.mono hU.size)))
          rw [hz] at h1 h5
          rw [unhide G1, stS_list] at h5
          exact ⟨cc, V, h1, h4, h5.mono fun e w' he => ⟨got_bad (n := 4) (unhide P3) he.1, he.2⟩⟩)
        have Z2 := hide (show (sTx h j).length + 60 ≤ 2048 → ∀ U, Below w.heap.size w U → ∃ cc V, (convert 9 22 (.string (stS (sTx h j) ++ (⟨#[72, 111, 115, 116, 58, 32, 97, 13, 10, 104, 111, 115, 116, 58, 32, 97, 13, 10, 13, 10]⟩ : ByteArray)))).run Tryd.prog U = .ok (.slice (some ⟨U.heap.size, 0, none⟩) ((sTx h j).length + 20) cc) V ∧ Below U.heap.size U V ∧ Calls Tryd.prog 10 #[.slice (some ⟨U.heap.size, 0, none⟩) ((sTx h j).length + 20) cc] V fun e w' => e = .returned (.tuple #[.agg #[.string ⟨#[]⟩, .string ⟨#[]⟩, .string ⟨#[]⟩, .string ⟨#[]⟩, .slice none 0 0], .int .i64 0, .int .i64 4]) ∧ Below V.heap.size V w' from fun h60 U hU => by
          obtain ⟨cc, V, h1, h2, h3, h4⟩ := conv_bytes U (stS (sTx h j) ++ (⟨#[72, 111, 115, 116, 58, 32, 97, 13, 10, 104, 111, 115, 116, 58, 32, 97, 13, 10, 13, 10]⟩ : ByteArray))
          have hz : (stS (sTx h j) ++ (⟨#[72, 111, 115, 116, 58, 32, 97, 13, 10, 104, 111, 115, 116, 58, 32, 97, 13, 10, 13, 10]⟩ : ByteArray)).size = (sTx h j).length + 20 := by rw [unhide G2, stS_size, List.length_append]; rfl
          have h5 := parseB_calls U V (stS (sTx h j) ++ (⟨#[72, 111, 115, 116, 58, 32, 97, 13, 10, 104, 111, 115, 116, 58, 32, 97, 13, 10, 13, 10]⟩ : ByteArray)) U.heap.size cc h2 h3 (unhide HLZ V (hU.trans (h4.mono hU.size)))
          rw [hz] at h1 h5
          rw [unhide G2, stS_list] at h5
          exact ⟨cc, V, h1, h4, h5.mono fun e w' he => ⟨got_bad (n := 4) (unhide P4 h60) he.1, he.2⟩⟩)
        have hsw : IntKind.i64.wrap (((stS (sTx h j)).size : Int) + 60) = ((stS (sTx h j)).size : Int) + 60 := by rw [IntKind.wrap_i64, zs]; omega
        by_cases h60 : (sTx h j).length + 60 ≤ 2048
        · have q60 : ¬ (2048 : Int) < ((stS (sTx h j)).size : Int) + 60 := by rw [zs]; omega
          have Z3 := hide (unhide Z2 h60)
          clear hnk htk ET G1 G2 P3 P4 Z2 zs h60 hss hsl
          generalize (sTx h j).length = ln at *
          generalize stS (sTx h j) = ss at *
          go_wp2_with fail
          refine (unhide WN _ _ _ (unhide FN)).mono ?_
          rintro e V1 ⟨rfl, v1⟩
          have F1 := chain FB v1
          have d0 := cell_later v1 b0
          have d1 := cell_later v1 b1
          have d2 := cell_later v1 b2
          have d3 := cell_later v1 b3
          have d4 := cell_later v1 b4
          have FT1 := hide ((unhide FT).later v1)
          clear v1 a0 a1 a2 a3 a4 b0 b1 b2 b3 b4 WN
          go_wp2_with fail
          refine (unhide WT _ _ _ (unhide FT1)).mono ?_
          rintro e V2 ⟨rfl, v2⟩
          have F2 := chain F1 v2
          obtain ⟨cc, V3, hcv, v3, PC⟩ := unhide Z1 V2 (unhide F2)
          have F3 := chain F2 v3
          have PCH := hide PC
          clear v2 d0 d1 d2 d3 d4 PC v3 WT Z1
          go_wp2_with fail
          refine (unhide PCH).mono ?_
          rintro e V4 ⟨rfl, v4'⟩
          have F4 := chain F3 v4'
          have F5 := hide ((unhide F4).alloc (unhide F4).size (.cells #[.string ⟨#[]⟩, .string ⟨#[]⟩, .string ⟨#[]⟩, .string ⟨#[]⟩, .slice none 0 0] 25))
          obtain ⟨cd, V6, hcv2, v6, PC2⟩ := unhide Z3 _ (unhide F5)
          have F6 := chain F5 v6
          have s5 : (V4.alloc (.cells #[.string ⟨#[]⟩, .string ⟨#[]⟩, .string ⟨#[]⟩, .string ⟨#[]⟩, .slice none 0 0] 25)).heap.size = V4.heap.size + 1 := by simp
          rw [s5] at hcv2 PC2
          have PCH2 := hide PC2
          clear v4' PC2 v6 PCH Z3 hcv s5
          go_wp2_with fail
          refine (unhide PCH2).mono ?_
          rintro e V7 ⟨rfl, v7⟩
          have F7 := chain F6 v7
          have F8 := hide ((unhide F7).alloc (unhide F7).size (.cells #[.string ⟨#[]⟩, .string ⟨#[]⟩, .string ⟨#[]⟩, .string ⟨#[]⟩, .slice none 0 0] 25))
          clear v7 PCH2 hcv2
          go_wp2_with (go_at_call 12; refine (unhide LV _ (unhide F8)).mono ?_; rintro e V9 ⟨rfl, v9⟩; have F9 := chain F8 v9)
          go_ret
          exact ⟨rfl, unhide F9⟩
        · have q60 : (2048 : Int) < ((stS (sTx h j)).size : Int) + 60 := by rw [zs]; omega
          clear hnk htk ET G1 G2 P3 P4 Z2 zs h60 hsl
          generalize (sTx h j).length = ln at *
          generalize stS (sTx h j) = ss at *
          go_wp2_with fail
          refine (unhide WN _ _ _ (unhide FN)).mono ?_
          rintro e V1 ⟨rfl, v1⟩
          have F1 := chain FB v1
          have d0 := cell_later v1 b0
          have d1 := cell_later v1 b1
          have d2 := cell_later v1 b2
          have d3 := cell_later v1 b3
          have d4 := cell_later v1 b4
          have FT1 := hide ((unhide FT).later v1)
          clear v1 a0 a1 a2 a3 a4 b0 b1 b2 b3 b4 WN
          go_wp2_with fail
          refine (unhide WT _ _ _ (unhide FT1)).mono ?_
          rintro e V2 ⟨rfl, v2⟩
          have F2 := chain F1 v2
          obtain ⟨cc, V3, hcv, v3, PC⟩ := unhide Z1 V2 (unhide F2)
          have F3 := chain F2 v3
          have PCH := hide PC
          clear v2 d0 d1 d2 d3 d4 PC v3 WT Z1
          go_wp2_with fail
          refine (unhide PCH).mono ?_
          rintro e V4 ⟨rfl, v4'⟩
          have F4 := chain F3 v4'
          have F5 := hide ((unhide F4).alloc (unhide F4).size (.cells #[.string ⟨#[]⟩, .string ⟨#[]⟩, .string ⟨#[]⟩, .string ⟨#[]⟩, .slice none 0 0] 25))
          clear v4' PCH hcv
          go_wp2_with (go_at_call 12; refine (unhide LV _ (unhide F5)).mono ?_; rintro e V9 ⟨rfl, v9⟩; have F9 := chain F5 v9)
          go_ret
          exact ⟨rfl, unhide F9⟩

set_option maxRecDepth 100000 in
theorem lifted (os : Os) (started : os.Started) (H : Type) (enc : TypeId × Value → H) (F : Stop.Interp) :
    ReturnsInHanded {} Tryd.checked os 9 .any ((Rows.OpenSpec.upto Rows.headHostsSpec).preRow enc Tryd.prog Tryd.f9 Rows.headHostsUptoRow.domain false Rows.headHostsUptoRow.laid) (((Rows.OpenSpec.upto Rows.headHostsSpec).at F).post enc Tryd.prog Tryd.f9 false true false false) := by
  refine returnsInHanded_of_row (C := Tryd.checked) (s := Rows.OpenSpec.upto Rows.headHostsSpec) own started (by kernel_rfl) Tryd.func9
    (witness_rowZ (enc := enc) (C := Tryd.checked) (World.laidAll Tryd.prog os Rows.headHostsUptoRow.laid) #[.agg #[.string ⟨#[]⟩, .string ⟨#[]⟩, .string ⟨#[]⟩, .string ⟨#[]⟩, .slice none 0 0]] (World.laidAll_os _ _ _) (World.shaped_of_ZipB (by kernel_rfl) (by kernel_rfl)) (by kernel_rfl)
      (OpenSpec.preRow_of_cond 8 (x := ([.agg [.lit (.string []), .lit (.string []), .lit (.string []), .lit (.string []), .nil]], [], [])) (by kernel_rfl) (by kernel_rfl) (fun k hk => by cases hk; kernel_rfl) (by kernel_rfl)
        (by rw [MakeChecks.laidMetH_plain _ _ _ (by kernel_rfl)]; exact laidMet_laidAll _ (by kernel_rfl) (by kernel_rfl)))) ?_
  intro W base args ds gs before hval0 hW hcnd hcond hsz hL hsh _
  have hk := hcond _ rfl
  have hLz : Lz W := lz_of (by rw [MakeChecks.laidMetH_plain _ _ _ (by kernel_rfl)] at hL; exact hL) hsh
  have hval : ∀ (j : Nat) t v, Tryd.f9.params[j]? = some t → args[j]? = some v → Value.okWide Tryd.prog W .any base t v := hval0
  have hW' := hW
  obtain ⟨p, q, hA0, hV, rfl, hfz, hnd⟩ := hW
  have hA : DataW.TrodAll enc Tryd.prog W 0 (fun _ => true) true Tryd.f9.params.toList args.toList ds p := hA0
  rw [Tryd.params9] at hA hval
  obtain ⟨v0, vs0, d0, ds0, p0, q0, hargs, rfl, rfl, h0, r0⟩ := trodAll_cons hA
  obtain ⟨rfl, rfl, rfl⟩ := trodAll_nil r0
  obtain rfl : args = #[v0] := by cases args; simp_all
  obtain ⟨rfl, rfl⟩ := trodVars_none hV
  have k0 := h0
  have lt0 : ∀ x ∈ p0, x.block < W.heap.size := by obtain ⟨m, hm⟩ := k0; exact DataW.trod_lt m _ _ _ hm
  obtain ⟨e0, a0, c0, rfl, hc0, hF0, hu0, hm0⟩ := open_head (hval 0 25 v0 rfl rfl) h0
  have hl0 : HdLe 1048576 e0 := hu0.mono (Nat.le_trans (bulk_mem (List.mem_append_left _ (by simp : d0 ∈ [d0]))) (bulk_bound hk))
  clear hA0 hval0
  refine (walk e0 a0 c0 W hF0 hl0 (head_nil0 k0) hLz).mono fun e W' ⟨he, bel⟩ => ?_
  subst he
  exact ⟨_, rfl, _, _, _, [], _, [], hW', trodAll_mk1 (shut_bool Tryd.underlying4 _), (trodAll_cons_mk (Below.trod laidOut (by kernel_rfl) (of_decide_eq_true (by kernel_rfl)) k0 bel lt0) trodAll_mk0), rfl, bel.frame _, fun h => by cases h⟩

theorem proved : Rows.HeadHostsUptoSaid :=
  OpenClaim.holds_of_cond 9 Tryd.f9 rfl rfl rfl rfl rfl rfl rfl ⟨rfl, rfl, rfl, rfl, rfl⟩ rfl rfl rfl rfl rfl (by kernel_rfl) Tryd.func9 (by kernel_rfl)
    (of_decide_eq_true (by kernel_rfl)) (by unfold Func.isWrapper; first | (rw [if_pos (by decide +kernel)]; kernel_rfl) | (rw [if_neg (by decide +kernel)]; exact ⟨rfl, rfl⟩))
    (fun os started H enc _ F => by rw [OpenClaim.pre_eq_preRow]; exact lifted os started H enc F)
theorem card : Rows.HeadHostsUptoCardSaid :=
  Claim7.holds_tied_plain_at .later [] _ _ _ _ proved (fun _ h => by cases h) (by kernel_rfl) (fun _ h => by cases h) headHostsUpto_row_tie rfl ⟨rfl, rfl⟩ (by kernel_rfl) rfl
    (fun f fn hf hfn => by
      obtain rfl : f = 9 := Option.some.inj ((show Tryd.prog.funcNamed "tollgate/tollgatelaw09.HeadHosts" = some 9 by kernel_rfl).symm.trans hf) |>.symm
      obtain rfl : fn = Tryd.f9 := (Option.some.inj (Tryd.func9.symm.trans hfn)).symm
      exact ⟨by kernel_rfl, fun j t ht => by
        rw [Tryd.params9] at ht
        have hm : t ∈ [25] := by simpa using Array.mem_of_getElem? ht
        have hall : ([25].all fun u => !Tryd.prog.wantsStandIn u) = true := by kernel_rfl
        exact (show Tryd.prog.wantsStandIn t = false by simpa using List.all_eq_true.1 hall t hm)⟩)
    (by kernel_rfl)
end Go.Proofs.YtmmiadlmdjfepaaDoor.headHostsUpto
namespace Go.Proofs.YtmmiadlmdjfepaaDoor
theorem headHostsUpto_holds : Rows.HeadHostsUptoCardSaid := headHostsUpto.card
#print axioms headHostsUpto_holds
end Go.Proofs.YtmmiadlmdjfepaaDoor
